/-
  Impl's three sets: whether they are valid, empty, whole, and agree with the ring.
  Impl's three sets: whether they agree with the ring.
  Impl's small functions on a sender: its sets, the state that follows, its end, what was given up.
  Impl's small functions on a sender: the state that follows, its end, what was given up.
  What impl.isRingSize, isNoByte, slices.ContainsFunc, impl.IsRing, RoomOf and reachesPlace return.
  What impl.IsSender returns.
  Plain facts about impl's store: a row of 64 cells, of which the first are the ring's. No program is imported.
  What slices.Clone of ints, impl.cloneRing and impl.storeCells return.
  What slices.Clone of ranges returns.
  A sender that impl works on in its own parameter; its copy.
  What impl.AckReset returns.
  AckReset of both, in the form in which the law takes it.
  A ring that came in, as a value.
  A sender that came in, as a value.
  A slice of bytes that came in is bytes that can be read.
-/
import Derived.Test.YtjohbfdifdjldacMg1
import Derived.Test.YtjohbfdifdjldacSS1
import Derived.Test.YtjohbfdifdjldacSRn1
import Derived.Test.YtjohbfdifdjldacRingN
import Derived.Laws.Cover3
import Derived.Laws.CopyRow
import Derived.Laws.CopyOwn
import Derived.Deep.RegionLaw
import Derived.Test.YtjohbfdifdjldacSRng4
import Derived.Test.YtjohbfdifdjldacSnK
import Derived.Test.YtjohbfdifdjldacRnV
import Derived.Deep.Slices
import Derived.Lib.SmallJoins
import Derived.ProofKit
import Derived.Test.YtjohbfdifdjldacSnV
import Derived.Test.YtjohbfdifdjldacDrawByte
import Derived.Laws.Rows
namespace Go.Proofs.Ytjohbfdifdjldac
open Go.RowKit Go.Deep Go.Proofs.Ytjohbfdifdjldac.Num

/-- Three sets, boxed. -/
def InT (w : World) (v2 v3 v4 : Value) (W : World) : Prop := (W.cell? ⟨w.heap.size, 0, none⟩ = some v2 ∧ W.cell? ⟨w.heap.size, 1, none⟩ = some v3 ∧ W.cell? ⟨w.heap.size, 2, none⟩ = some v4) ∧ w.heap.size < W.heap.size ∧ Below w.heap.size w W
theorem InT.start (w : World) (v2 v3 v4 : Value) (t : TypeId) : InT w v2 v3 v4 (w.alloc (.cells #[v2, v3, v4] t)) :=
  ⟨cell_alloc3 w v2 v3 v4 t, by simp, (Below.refl _ _).alloc (Nat.le_refl _) _⟩
theorem InT.next {w : World} {v2 v3 v4 : Value} {W W' : World} (h : InT w v2 v3 v4 W) (hb : Below W.heap.size W W') : InT w v2 v3 v4 W' :=
  ⟨⟨(hb.cell (p := ⟨w.heap.size, 0, none⟩) h.2.1).trans h.1.1, (hb.cell (p := ⟨w.heap.size, 1, none⟩) h.2.1).trans h.1.2.1, (hb.cell (p := ⟨w.heap.size, 2, none⟩) h.2.1).trans h.1.2.2⟩, Nat.lt_of_lt_of_le h.2.1 hb.size, h.2.2.trans (hb.mono (Nat.le_of_lt h.2.1))⟩
theorem InT.drew {w : World} {v2 v3 v4 : Value} {W : World} (h : InT w v2 v3 v4 W) : InT w v2 v3 v4 W.drew := h.next (Below.refl _ _).drew
/-- The three slices of ranges can be read, are short, and fit. -/
def ReadT (w : World) (B : Nat) (A2 A3 A4 : Option Addr) (s : Sn) : Prop := Rgs w B A2 s.pe ∧ Rgs w B A3 s.fl ∧ Rgs w B A4 s.ac
def LenT (s : Sn) : Prop := s.pe.length + s.fl.length + s.ac.length ≤ 1048576
def CapT (s : Sn) (c2 c3 c4 : Nat) : Prop := s.pe.length ≤ c2 ∧ s.fl.length ≤ c3 ∧ s.ac.length ≤ c4
set_option maxRecDepth 100000 in
set_option maxHeartbeats 2000000 in
/-- impl's byteSets.areValid -/
theorem isbv (s : Sn) (A2 A3 A4 : Option Addr) (c2 c3 c4 B : Nat) (w : World) (hB : B ≤ w.heap.size) (hr : ReadT w B A2 A3 A4 s) (hn : LenT s) :
    Calls Try.prog 75 #[.agg #[.slice A2 s.pe.length c2, .slice A3 s.fl.length c3, .slice A4 s.ac.length c4]] w fun e w' => e = .returned (.bool (decide (okR (-1) s.pe ∧ okR (-1) s.fl ∧ okR (-1) s.ac))) ∧ Below w.heap.size w w' := by
  have HH := Lib.hid (InT.start w (.slice A2 s.pe.length c2) (.slice A3 s.fl.length c3) (.slice A4 s.ac.length c4) 70)
  have HC0 : Hid (∀ W, InT w (.slice A2 s.pe.length c2) (.slice A3 s.fl.length c3) (.slice A4 s.ac.length c4) W → Calls Try.prog 94 #[.agg #[.slice A2 s.pe.length c2]] W fun e w' => e = .returned (.bool (decide (okR (-1) s.pe))) ∧ Below W.heap.size W w') := Lib.hid fun W h => isrv s.pe A2 c2 B W (Nat.le_trans hB h.2.2.size) (hr.1.below hB h.2.2) (by unfold LenT at hn; omega)
  have HC1 : Hid (∀ W, InT w (.slice A2 s.pe.length c2) (.slice A3 s.fl.length c3) (.slice A4 s.ac.length c4) W → Calls Try.prog 94 #[.agg #[.slice A3 s.fl.length c3]] W fun e w' => e = .returned (.bool (decide (okR (-1) s.fl))) ∧ Below W.heap.size W w') := Lib.hid fun W h => isrv s.fl A3 c3 B W (Nat.le_trans hB h.2.2.size) (hr.2.1.below hB h.2.2) (by unfold LenT at hn; omega)
  have HC2 : Hid (∀ W, InT w (.slice A2 s.pe.length c2) (.slice A3 s.fl.length c3) (.slice A4 s.ac.length c4) W → Calls Try.prog 94 #[.agg #[.slice A4 s.ac.length c4]] W fun e w' => e = .returned (.bool (decide (okR (-1) s.ac))) ∧ Below W.heap.size W w') := Lib.hid fun W h => isrv s.ac A4 c4 B W (Nat.le_trans hB h.2.2.size) (hr.2.2.below hB h.2.2) (by unfold LenT at hn; omega)
  clear hr hn
  by_cases h0 : okR (-1) s.pe
  rotate_left
  · have HV : Hid (decide (okR (-1) s.pe ∧ okR (-1) s.fl ∧ okR (-1) s.ac) = false) := Lib.hid (decide_eq_false (fun k => h0 k.1))
    rw [decide_eq_false h0] at HC0
    clear h0
    go_enter Try.func75, Try.ntmps75
    obtain ⟨t0, t1, t2⟩ := HH.out.1
    go_wp2_with fail
    refine (HC0.out _ HH.out).mono ?_
    rintro e w1 ⟨rfl, hb1⟩
    have HH := Lib.hid (HH.out.next hb1)
    clear hb1 t0 t1 t2
    obtain ⟨t0, t1, t2⟩ := HH.out.1
    go_wp2
    go_ret
    exact ⟨by rw [HV.out]; rfl, HH.out.2.2⟩
  rw [decide_eq_true h0] at HC0
  by_cases h1 : okR (-1) s.fl
  rotate_left
  · have HV : Hid (decide (okR (-1) s.pe ∧ okR (-1) s.fl ∧ okR (-1) s.ac) = false) := Lib.hid (decide_eq_false (fun k => h1 k.2.1))
    rw [decide_eq_false h1] at HC1
    clear h0 h1
    go_enter Try.func75, Try.ntmps75
    obtain ⟨t0, t1, t2⟩ := HH.out.1
    go_wp2_with fail
    refine (HC0.out _ HH.out).mono ?_
    rintro e w1 ⟨rfl, hb1⟩
    have HH := Lib.hid (HH.out.next hb1)
    clear hb1 t0 t1 t2
    obtain ⟨t0, t1, t2⟩ := HH.out.1
    go_wp2_with fail
    refine (HC1.out _ HH.out).mono ?_
    rintro e w1 ⟨rfl, hb1⟩
    have HH := Lib.hid (HH.out.next hb1)
    clear hb1 t0 t1 t2
    obtain ⟨t0, t1, t2⟩ := HH.out.1
    go_wp2
    go_ret
    exact ⟨by rw [HV.out]; rfl, HH.out.2.2⟩
  rw [decide_eq_true h1] at HC1
  by_cases h2 : okR (-1) s.ac
  rotate_left
  · have HV : Hid (decide (okR (-1) s.pe ∧ okR (-1) s.fl ∧ okR (-1) s.ac) = false) := Lib.hid (decide_eq_false (fun k => h2 k.2.2))
    rw [decide_eq_false h2] at HC2
    clear h0 h1 h2
    go_enter Try.func75, Try.ntmps75
    obtain ⟨t0, t1, t2⟩ := HH.out.1
    go_wp2_with fail
    refine (HC0.out _ HH.out).mono ?_
    rintro e w1 ⟨rfl, hb1⟩
    have HH := Lib.hid (HH.out.next hb1)
    clear hb1 t0 t1 t2
    obtain ⟨t0, t1, t2⟩ := HH.out.1
    go_wp2_with fail
    refine (HC1.out _ HH.out).mono ?_
    rintro e w1 ⟨rfl, hb1⟩
    have HH := Lib.hid (HH.out.next hb1)
    clear hb1 t0 t1 t2
    obtain ⟨t0, t1, t2⟩ := HH.out.1
    go_wp2_with fail
    refine (HC2.out _ HH.out).mono ?_
    rintro e w1 ⟨rfl, hb1⟩
    have HH := Lib.hid (HH.out.next hb1)
    clear hb1 t0 t1 t2
    obtain ⟨t0, t1, t2⟩ := HH.out.1
    go_wp2
    go_ret
    exact ⟨by rw [HV.out]; rfl, HH.out.2.2⟩
  rw [decide_eq_true h2] at HC2
  have HV : Hid (decide (okR (-1) s.pe ∧ okR (-1) s.fl ∧ okR (-1) s.ac) = true) := Lib.hid (decide_eq_true ⟨h0, h1, h2⟩)
  clear h0 h1 h2
  go_enter Try.func75, Try.ntmps75
  obtain ⟨t0, t1, t2⟩ := HH.out.1
  go_wp2_with fail
  refine (HC0.out _ HH.out).mono ?_
  rintro e w1 ⟨rfl, hb1⟩
  have HH := Lib.hid (HH.out.next hb1)
  clear hb1 t0 t1 t2
  obtain ⟨t0, t1, t2⟩ := HH.out.1
  go_wp2_with fail
  refine (HC1.out _ HH.out).mono ?_
  rintro e w1 ⟨rfl, hb1⟩
  have HH := Lib.hid (HH.out.next hb1)
  clear hb1 t0 t1 t2
  obtain ⟨t0, t1, t2⟩ := HH.out.1
  go_wp2_with fail
  refine (HC2.out _ HH.out).mono ?_
  rintro e w1 ⟨rfl, hb1⟩
  have HH := Lib.hid (HH.out.next hb1)
  clear hb1 t0 t1 t2
  obtain ⟨t0, t1, t2⟩ := HH.out.1
  go_wp2
  go_ret
  exact ⟨by rw [HV.out]; rfl, HH.out.2.2⟩
set_option maxRecDepth 100000 in
set_option maxHeartbeats 2000000 in
/-- impl's byteSets.areEmpty -/
theorem isbe (s : Sn) (A2 A3 A4 : Option Addr) (c2 c3 c4 : Nat) (w : World)  :
    Calls Try.prog 76 #[.agg #[.slice A2 s.pe.length c2, .slice A3 s.fl.length c3, .slice A4 s.ac.length c4]] w fun e w' => e = .returned (.bool (decide (s.pe = [] ∧ s.fl = [] ∧ s.ac = []))) ∧ Below w.heap.size w w' := by
  have HH := Lib.hid (InT.start w (.slice A2 s.pe.length c2) (.slice A3 s.fl.length c3) (.slice A4 s.ac.length c4) 70)
  have HC0 : Hid (∀ W, InT w (.slice A2 s.pe.length c2) (.slice A3 s.fl.length c3) (.slice A4 s.ac.length c4) W → Calls Try.prog 95 #[.agg #[.slice A2 s.pe.length c2]] W fun e w' => e = .returned (.bool (decide (s.pe = []))) ∧ Below W.heap.size W w') := Lib.hid fun W h => isre s.pe A2 c2 W
  have HC1 : Hid (∀ W, InT w (.slice A2 s.pe.length c2) (.slice A3 s.fl.length c3) (.slice A4 s.ac.length c4) W → Calls Try.prog 95 #[.agg #[.slice A3 s.fl.length c3]] W fun e w' => e = .returned (.bool (decide (s.fl = []))) ∧ Below W.heap.size W w') := Lib.hid fun W h => isre s.fl A3 c3 W
  have HC2 : Hid (∀ W, InT w (.slice A2 s.pe.length c2) (.slice A3 s.fl.length c3) (.slice A4 s.ac.length c4) W → Calls Try.prog 95 #[.agg #[.slice A4 s.ac.length c4]] W fun e w' => e = .returned (.bool (decide (s.ac = []))) ∧ Below W.heap.size W w') := Lib.hid fun W h => isre s.ac A4 c4 W
  by_cases h0 : s.pe = []
  rotate_left
  · have HV : Hid (decide (s.pe = [] ∧ s.fl = [] ∧ s.ac = []) = false) := Lib.hid (decide_eq_false (fun k => h0 k.1))
    rw [decide_eq_false h0] at HC0
    clear h0
    go_enter Try.func76, Try.ntmps76
    obtain ⟨t0, t1, t2⟩ := HH.out.1
    go_wp2_with fail
    refine (HC0.out _ HH.out).mono ?_
    rintro e w1 ⟨rfl, hb1⟩
    have HH := Lib.hid (HH.out.next hb1)
    clear hb1 t0 t1 t2
    obtain ⟨t0, t1, t2⟩ := HH.out.1
    go_wp2
    go_ret
    exact ⟨by rw [HV.out]; rfl, HH.out.2.2⟩
  rw [decide_eq_true h0] at HC0
  by_cases h1 : s.fl = []
  rotate_left
  · have HV : Hid (decide (s.pe = [] ∧ s.fl = [] ∧ s.ac = []) = false) := Lib.hid (decide_eq_false (fun k => h1 k.2.1))
    rw [decide_eq_false h1] at HC1
    clear h0 h1
    go_enter Try.func76, Try.ntmps76
    obtain ⟨t0, t1, t2⟩ := HH.out.1
    go_wp2_with fail
    refine (HC0.out _ HH.out).mono ?_
    rintro e w1 ⟨rfl, hb1⟩
    have HH := Lib.hid (HH.out.next hb1)
    clear hb1 t0 t1 t2
    obtain ⟨t0, t1, t2⟩ := HH.out.1
    go_wp2_with fail
    refine (HC1.out _ HH.out).mono ?_
    rintro e w1 ⟨rfl, hb1⟩
    have HH := Lib.hid (HH.out.next hb1)
    clear hb1 t0 t1 t2
    obtain ⟨t0, t1, t2⟩ := HH.out.1
    go_wp2
    go_ret
    exact ⟨by rw [HV.out]; rfl, HH.out.2.2⟩
  rw [decide_eq_true h1] at HC1
  by_cases h2 : s.ac = []
  rotate_left
  · have HV : Hid (decide (s.pe = [] ∧ s.fl = [] ∧ s.ac = []) = false) := Lib.hid (decide_eq_false (fun k => h2 k.2.2))
    rw [decide_eq_false h2] at HC2
    clear h0 h1 h2
    go_enter Try.func76, Try.ntmps76
    obtain ⟨t0, t1, t2⟩ := HH.out.1
    go_wp2_with fail
    refine (HC0.out _ HH.out).mono ?_
    rintro e w1 ⟨rfl, hb1⟩
    have HH := Lib.hid (HH.out.next hb1)
    clear hb1 t0 t1 t2
    obtain ⟨t0, t1, t2⟩ := HH.out.1
    go_wp2_with fail
    refine (HC1.out _ HH.out).mono ?_
    rintro e w1 ⟨rfl, hb1⟩
    have HH := Lib.hid (HH.out.next hb1)
    clear hb1 t0 t1 t2
    obtain ⟨t0, t1, t2⟩ := HH.out.1
    go_wp2_with fail
    refine (HC2.out _ HH.out).mono ?_
    rintro e w1 ⟨rfl, hb1⟩
    have HH := Lib.hid (HH.out.next hb1)
    clear hb1 t0 t1 t2
    obtain ⟨t0, t1, t2⟩ := HH.out.1
    go_wp2
    go_ret
    exact ⟨by rw [HV.out]; rfl, HH.out.2.2⟩
  rw [decide_eq_true h2] at HC2
  have HV : Hid (decide (s.pe = [] ∧ s.fl = [] ∧ s.ac = []) = true) := Lib.hid (decide_eq_true ⟨h0, h1, h2⟩)
  clear h0 h1 h2
  go_enter Try.func76, Try.ntmps76
  obtain ⟨t0, t1, t2⟩ := HH.out.1
  go_wp2_with fail
  refine (HC0.out _ HH.out).mono ?_
  rintro e w1 ⟨rfl, hb1⟩
  have HH := Lib.hid (HH.out.next hb1)
  clear hb1 t0 t1 t2
  obtain ⟨t0, t1, t2⟩ := HH.out.1
  go_wp2_with fail
  refine (HC1.out _ HH.out).mono ?_
  rintro e w1 ⟨rfl, hb1⟩
  have HH := Lib.hid (HH.out.next hb1)
  clear hb1 t0 t1 t2
  obtain ⟨t0, t1, t2⟩ := HH.out.1
  go_wp2_with fail
  refine (HC2.out _ HH.out).mono ?_
  rintro e w1 ⟨rfl, hb1⟩
  have HH := Lib.hid (HH.out.next hb1)
  clear hb1 t0 t1 t2
  obtain ⟨t0, t1, t2⟩ := HH.out.1
  go_wp2
  go_ret
  exact ⟨by rw [HV.out]; rfl, HH.out.2.2⟩
set_option maxRecDepth 100000 in
set_option maxHeartbeats 8000000 in
/-- impl's byteSets.divide -/
theorem isbdiv (s : Sn) (A2 A3 A4 : Option Addr) (c2 c3 c4 B : Nat) (w : World) (hB : B ≤ w.heap.size) (hr : ReadT w B A2 A3 A4 s) (hn : LenT s) (hc : CapT s c2 c3 c4) (hk : okR (-1) s.pe ∧ okR (-1) s.fl ∧ okR (-1) s.ac) :
    Calls Try.prog 78 #[.agg #[.slice A2 s.pe.length c2, .slice A3 s.fl.length c3, .slice A4 s.ac.length c4], .int .i64 s.rn.en] w fun e w' => e = .returned (.bool (decide (divS s))) ∧ Below w.heap.size w w' := by
  have HH := Lib.hid (InT.start w (.slice A2 s.pe.length c2) (.slice A3 s.fl.length c3) (.slice A4 s.ac.length c4) 70)
  have HM0 : Hid (∀ W, InT w (.slice A2 s.pe.length c2) (.slice A3 s.fl.length c3) (.slice A4 s.ac.length c4) W → Calls Try.prog 96 #[.agg #[.slice A2 s.pe.length c2], .agg #[.slice A3 s.fl.length c3]] W fun e w' => e = .returned (.bool (!decide (comR s.pe s.fl = []))) ∧ Below W.heap.size W w') := Lib.hid fun W h => isrs s.pe s.fl A2 A3 c2 c3 B W (Nat.le_trans hB h.2.2.size) (hr.1.below hB h.2.2) (hr.2.1.below hB h.2.2) (by unfold LenT at hn; omega) hc.1 hc.2.1 hk.1 hk.2.1
  have HM1 : Hid (∀ W, InT w (.slice A2 s.pe.length c2) (.slice A3 s.fl.length c3) (.slice A4 s.ac.length c4) W → Calls Try.prog 96 #[.agg #[.slice A2 s.pe.length c2], .agg #[.slice A4 s.ac.length c4]] W fun e w' => e = .returned (.bool (!decide (comR s.pe s.ac = []))) ∧ Below W.heap.size W w') := Lib.hid fun W h => isrs s.pe s.ac A2 A4 c2 c4 B W (Nat.le_trans hB h.2.2.size) (hr.1.below hB h.2.2) (hr.2.2.below hB h.2.2) (by unfold LenT at hn; omega) hc.1 hc.2.2 hk.1 hk.2.2
  have HM2 : Hid (∀ W, InT w (.slice A2 s.pe.length c2) (.slice A3 s.fl.length c3) (.slice A4 s.ac.length c4) W → Calls Try.prog 96 #[.agg #[.slice A3 s.fl.length c3], .agg #[.slice A4 s.ac.length c4]] W fun e w' => e = .returned (.bool (!decide (comR s.fl s.ac = []))) ∧ Below W.heap.size W w') := Lib.hid fun W h => isrs s.fl s.ac A3 A4 c3 c4 B W (Nat.le_trans hB h.2.2.size) (hr.2.1.below hB h.2.2) (hr.2.2.below hB h.2.2) (by unfold LenT at hn; omega) hc.2.1 hc.2.2 hk.2.1 hk.2.2
  have HE0 : Hid (∀ W, InT w (.slice A2 s.pe.length c2) (.slice A3 s.fl.length c3) (.slice A4 s.ac.length c4) W → Calls Try.prog 97 #[.agg #[.slice A2 s.pe.length c2]] W fun e w' => e = .returned (.int .i64 (lastS s.pe)) ∧ Below W.heap.size W w') := Lib.hid fun W h => isrd s.pe A2 c2 B W (Nat.le_trans hB h.2.2.size) (hr.1.below hB h.2.2) (by unfold LenT at hn; omega)
  have HE1 : Hid (∀ W, InT w (.slice A2 s.pe.length c2) (.slice A3 s.fl.length c3) (.slice A4 s.ac.length c4) W → Calls Try.prog 97 #[.agg #[.slice A3 s.fl.length c3]] W fun e w' => e = .returned (.int .i64 (lastS s.fl)) ∧ Below W.heap.size W w') := Lib.hid fun W h => isrd s.fl A3 c3 B W (Nat.le_trans hB h.2.2.size) (hr.2.1.below hB h.2.2) (by unfold LenT at hn; omega)
  have HE2 : Hid (∀ W, InT w (.slice A2 s.pe.length c2) (.slice A3 s.fl.length c3) (.slice A4 s.ac.length c4) W → Calls Try.prog 97 #[.agg #[.slice A4 s.ac.length c4]] W fun e w' => e = .returned (.int .i64 (lastS s.ac)) ∧ Below W.heap.size W w') := Lib.hid fun W h => isrd s.ac A4 c4 B W (Nat.le_trans hB h.2.2.size) (hr.2.2.below hB h.2.2) (by unfold LenT at hn; omega)
  have HN0 : Hid (∀ W, InT w (.slice A2 s.pe.length c2) (.slice A3 s.fl.length c3) (.slice A4 s.ac.length c4) W → Calls Try.prog 98 #[.agg #[.slice A2 s.pe.length c2]] W fun e w' => e = .returned (.int .i64 (cntR s.pe)) ∧ Below W.heap.size W w') := Lib.hid fun W h => (isrc s.pe A2 c2 B W (Nat.le_trans hB h.2.2.size) (hr.1.below hB h.2.2) (by unfold LenT at hn; omega)).mono fun e w2 hh => ⟨by rw [hh.1, if_pos hk.1], hh.2⟩
  have HN1 : Hid (∀ W, InT w (.slice A2 s.pe.length c2) (.slice A3 s.fl.length c3) (.slice A4 s.ac.length c4) W → Calls Try.prog 98 #[.agg #[.slice A3 s.fl.length c3]] W fun e w' => e = .returned (.int .i64 (cntR s.fl)) ∧ Below W.heap.size W w') := Lib.hid fun W h => (isrc s.fl A3 c3 B W (Nat.le_trans hB h.2.2.size) (hr.2.1.below hB h.2.2) (by unfold LenT at hn; omega)).mono fun e w2 hh => ⟨by rw [hh.1, if_pos hk.2.1], hh.2⟩
  have HN2 : Hid (∀ W, InT w (.slice A2 s.pe.length c2) (.slice A3 s.fl.length c3) (.slice A4 s.ac.length c4) W → Calls Try.prog 98 #[.agg #[.slice A4 s.ac.length c4]] W fun e w' => e = .returned (.int .i64 (cntR s.ac)) ∧ Below W.heap.size W w') := Lib.hid fun W h => (isrc s.ac A4 c4 B W (Nat.le_trans hB h.2.2.size) (hr.2.2.below hB h.2.2) (by unfold LenT at hn; omega)).mono fun e w2 hh => ⟨by rw [hh.1, if_pos hk.2.2], hh.2⟩
  have HLO := Lib.hid fun h => apart_low (s := s) hk.1 hk.2.1 hk.2.2 h
  have HNN : Hid (0 ≤ cntR s.pe ∧ 0 ≤ cntR s.fl ∧ 0 ≤ cntR s.ac) := Lib.hid ⟨(cntR_le _ _ hk.1 (by decide)).1, (cntR_le _ _ hk.2.1 (by decide)).1, (cntR_le _ _ hk.2.2 (by decide)).1⟩
  clear hr hn hc hk
  by_cases h0 : comR s.pe s.fl = []
  rotate_left
  · have HV : Hid (decide (divS s) = false) := Lib.hid (decide_eq_false (fun k => h0 k.1.1))
    rw [decide_eq_false h0] at HM0
    clear h0 HE0 HE1 HE2 HN0 HN1 HN2 HLO HNN
    go_enter Try.func78, Try.ntmps78
    obtain ⟨t0, t1, t2⟩ := HH.out.1
    go_wp2_with fail
    refine (HM0.out _ HH.out).mono ?_
    rintro e w1 ⟨rfl, hb1⟩
    have HH := Lib.hid (HH.out.next hb1)
    clear hb1 t0 t1 t2
    obtain ⟨t0, t1, t2⟩ := HH.out.1
    go_wp2
    go_ret
    exact ⟨by rw [HV.out]; rfl, HH.out.2.2⟩
  rw [decide_eq_true h0] at HM0
  by_cases h1 : comR s.pe s.ac = []
  rotate_left
  · have HV : Hid (decide (divS s) = false) := Lib.hid (decide_eq_false (fun k => h1 k.1.2.1))
    rw [decide_eq_false h1] at HM1
    clear h0 h1 HE0 HE1 HE2 HN0 HN1 HN2 HLO HNN
    go_enter Try.func78, Try.ntmps78
    obtain ⟨t0, t1, t2⟩ := HH.out.1
    go_wp2_with fail
    refine (HM0.out _ HH.out).mono ?_
    rintro e w1 ⟨rfl, hb1⟩
    have HH := Lib.hid (HH.out.next hb1)
    clear hb1 t0 t1 t2
    obtain ⟨t0, t1, t2⟩ := HH.out.1
    go_wp2_with fail
    refine (HM1.out _ HH.out).mono ?_
    rintro e w1 ⟨rfl, hb1⟩
    have HH := Lib.hid (HH.out.next hb1)
    clear hb1 t0 t1 t2
    obtain ⟨t0, t1, t2⟩ := HH.out.1
    go_wp2
    go_ret
    exact ⟨by rw [HV.out]; rfl, HH.out.2.2⟩
  rw [decide_eq_true h1] at HM1
  by_cases h2 : comR s.fl s.ac = []
  rotate_left
  · have HV : Hid (decide (divS s) = false) := Lib.hid (decide_eq_false (fun k => h2 k.1.2.2))
    rw [decide_eq_false h2] at HM2
    clear h0 h1 h2 HE0 HE1 HE2 HN0 HN1 HN2 HLO HNN
    go_enter Try.func78, Try.ntmps78
    obtain ⟨t0, t1, t2⟩ := HH.out.1
    go_wp2_with fail
    refine (HM0.out _ HH.out).mono ?_
    rintro e w1 ⟨rfl, hb1⟩
    have HH := Lib.hid (HH.out.next hb1)
    clear hb1 t0 t1 t2
    obtain ⟨t0, t1, t2⟩ := HH.out.1
    go_wp2_with fail
    refine (HM1.out _ HH.out).mono ?_
    rintro e w1 ⟨rfl, hb1⟩
    have HH := Lib.hid (HH.out.next hb1)
    clear hb1 t0 t1 t2
    obtain ⟨t0, t1, t2⟩ := HH.out.1
    go_wp2_with fail
    refine (HM2.out _ HH.out).mono ?_
    rintro e w1 ⟨rfl, hb1⟩
    have HH := Lib.hid (HH.out.next hb1)
    clear hb1 t0 t1 t2
    obtain ⟨t0, t1, t2⟩ := HH.out.1
    go_wp2
    go_ret
    exact ⟨by rw [HV.out]; rfl, HH.out.2.2⟩
  rw [decide_eq_true h2] at HM2
  have HLW := Lib.hid (HLO.out ⟨h0, h1, h2⟩)
  have HVV : Hid (decide (divS s) = decide (max (max (lastS s.pe) (lastS s.fl)) (lastS s.ac) = s.rn.en ∧ cntR s.pe + cntR s.fl + cntR s.ac = s.rn.en)) := Lib.hid (decide_eq_decide.2 ⟨fun k => k.2, fun k => ⟨⟨h0, h1, h2⟩, k⟩⟩)
  rw [HVV.out]
  clear h0 h1 h2 HLO HVV
  generalize lastS s.pe = e0 at *
  generalize lastS s.fl = e1 at *
  generalize lastS s.ac = e2 at *
  generalize cntR s.pe = n0 at *
  generalize cntR s.fl = n1 at *
  generalize cntR s.ac = n2 at *
  have hw1 : wrap64 (n0 + n1) = n0 + n1 := by
    have := HNN.out
    have := HLW.out
    unfold wrap64
    omega
  have hw2 : wrap64 (n0 + n1 + n2) = n0 + n1 + n2 := by
    have := HNN.out
    have := HLW.out
    unfold wrap64
    omega
  have hv1 : IntKind.i64.wrap (n0 + n1) = n0 + n1 := by
    rw [IntKind.wrap_i64]
    have := HNN.out
    have := HLW.out
    omega
  have hv2 : IntKind.i64.wrap (n0 + n1 + n2) = n0 + n1 + n2 := by
    rw [IntKind.wrap_i64]
    have := HNN.out
    have := HLW.out
    omega
  by_cases h5 : max (max e0 e1) e2 = s.rn.en
  · skip
    have d5 : (max (max e0 e1) e2 == s.rn.en) = true := by simpa using h5
    have HV : Hid (decide (max (max e0 e1) e2 = s.rn.en ∧ n0 + n1 + n2 = s.rn.en) = (n0 + n1 + n2 == s.rn.en)) := Lib.hid (by
      rw [show (n0 + n1 + n2 == s.rn.en) = decide (n0 + n1 + n2 = s.rn.en) from rfl]
      exact decide_eq_decide.2 ⟨fun k => k.2, fun k => ⟨h5, k⟩⟩)
    rw [HV.out]
    clear h5 HV HNN HLW
    go_enter Try.func78, Try.ntmps78
    obtain ⟨t0, t1, t2⟩ := HH.out.1
    go_wp2_with fail
    refine (HM0.out _ HH.out).mono ?_
    rintro e w1 ⟨rfl, hb1⟩
    have HH := Lib.hid (HH.out.next hb1)
    clear hb1 t0 t1 t2
    obtain ⟨t0, t1, t2⟩ := HH.out.1
    go_wp2_with fail
    refine (HM1.out _ HH.out).mono ?_
    rintro e w1 ⟨rfl, hb1⟩
    have HH := Lib.hid (HH.out.next hb1)
    clear hb1 t0 t1 t2
    obtain ⟨t0, t1, t2⟩ := HH.out.1
    go_wp2_with fail
    refine (HM2.out _ HH.out).mono ?_
    rintro e w1 ⟨rfl, hb1⟩
    have HH := Lib.hid (HH.out.next hb1)
    clear hb1 t0 t1 t2
    obtain ⟨t0, t1, t2⟩ := HH.out.1
    go_upto_region 3 with fail
    have HH := Lib.hid HH.out.drew
    refine wp_region_held_drew (S := (InT w (.slice A2 s.pe.length c2) (.slice A3 s.fl.length c3) (.slice A4 s.ac.length c4))) (by kernel_rfl) HH.out (fun hHeld => ?_)
    refine wpAnyH_take (i := 0) (v := ?_) rfl (by kernel_rfl) (by kernel_rfl) (by kernel_rfl) (fun _ _ _ h => h) (Or.inl ⟨by rfl, ?_⟩) hHeld ?_
    rotate_left
    · (intro wx hSx; obtain ⟨t0, t1, t2⟩ := hSx.1; go_simp; (try with_reducible rfl))
    (try simp only [Act.put, List.getElem_toArray, List.getElem_cons_zero, List.setIfInBounds_toArray, List.set_cons_succ, List.set_cons_zero])
    refine wpAnyH_take (i := 1) (v := ?_) rfl (by kernel_rfl) (by kernel_rfl) (by kernel_rfl) (fun _ _ _ h => h) (Or.inl ⟨by rfl, ?_⟩) hHeld ?_
    rotate_left
    · (intro wx hSx; obtain ⟨t0, t1, t2⟩ := hSx.1; go_simp; (try with_reducible rfl))
    (try simp only [Act.put, List.getElem_toArray, List.getElem_cons_succ, List.getElem_cons_zero, List.setIfInBounds_toArray, List.set_cons_succ, List.set_cons_zero])
    refine wpAnyH_take (i := 2) (v := ?_) rfl (by kernel_rfl) (by kernel_rfl) (by kernel_rfl) (fun _ _ _ h => h) (Or.inl ⟨by rfl, ?_⟩) hHeld ?_
    rotate_left
    · (intro wx hSx; obtain ⟨t0, t1, t2⟩ := hSx.1; go_simp; (try with_reducible rfl))
    (try simp only [Act.put, List.getElem_toArray, List.getElem_cons_succ, List.getElem_cons_zero, List.setIfInBounds_toArray, List.set_cons_succ, List.set_cons_zero])
    refine wpAnyH_take (i := 4) (v := ?_) rfl (by kernel_rfl) (by kernel_rfl) (by kernel_rfl) (fun _ _ _ h => h) (Or.inl ⟨by rfl, ?_⟩) hHeld ?_
    rotate_left
    · (intro wx hSx; obtain ⟨t0, t1, t2⟩ := hSx.1; go_simp; (try with_reducible rfl))
    (try simp only [Act.put, List.getElem_toArray, List.getElem_cons_succ, List.getElem_cons_zero, List.setIfInBounds_toArray, List.set_cons_succ, List.set_cons_zero])
    refine wpAnyH_take (i := 5) (v := ?_) rfl (by kernel_rfl) (by kernel_rfl) (by kernel_rfl) (fun _ _ _ h => h) (Or.inl ⟨by rfl, ?_⟩) hHeld ?_
    rotate_left
    · (intro wx hSx; obtain ⟨t0, t1, t2⟩ := hSx.1; go_simp; (try with_reducible rfl))
    (try simp only [Act.put, List.getElem_toArray, List.getElem_cons_succ, List.getElem_cons_zero, List.setIfInBounds_toArray, List.set_cons_succ, List.set_cons_zero])
    refine wpAnyH_take (i := 7) (v := ?_) rfl (by kernel_rfl) (by kernel_rfl) (by kernel_rfl) (fun _ _ _ h => h) (Or.inl ⟨by rfl, ?_⟩) hHeld ?_
    rotate_left
    · (intro wx hSx; obtain ⟨t0, t1, t2⟩ := hSx.1; go_simp; (try with_reducible rfl))
    (try simp only [Act.put, List.getElem_toArray, List.getElem_cons_succ, List.getElem_cons_zero, List.setIfInBounds_toArray, List.set_cons_succ, List.set_cons_zero])
    refine wpAnyH_take (i := 8) (v := ?_) rfl (by kernel_rfl) (by kernel_rfl) (by kernel_rfl) (fun _ _ _ h => h) (Or.inl ⟨by rfl, ?_⟩) hHeld ?_
    rotate_left
    · (intro wx hSx; obtain ⟨t0, t1, t2⟩ := hSx.1; go_simp; (try with_reducible rfl))
    (try simp only [Act.put, List.getElem_toArray, List.getElem_cons_succ, List.getElem_cons_zero, List.setIfInBounds_toArray, List.set_cons_succ, List.set_cons_zero])
    refine wpAnyH_take (i := 9) (v := ?_) rfl (by kernel_rfl) (by kernel_rfl) (by kernel_rfl) (fun _ _ _ h => h) (Or.inl ⟨by rfl, ?_⟩) hHeld ?_
    rotate_left
    · (intro wx hSx; obtain ⟨t0, t1, t2⟩ := hSx.1; go_simp; (try with_reducible rfl))
    (try simp only [Act.put, List.getElem_toArray, List.getElem_cons_succ, List.getElem_cons_zero, List.setIfInBounds_toArray, List.set_cons_succ, List.set_cons_zero])
    refine wpAnyH_ready (rs := [3]) (by kernel_rfl) (by simp) ?_
    refine AllReadyH.cons rfl (fun K hK => ?_) AllReadyH.nil
    rw [if_pos (by rfl)]
    go_simp
    refine (HE0.out _ HH.out).mono ?_
    rintro e w1 ⟨rfl, hb1⟩
    have HH := Lib.hid (HH.out.next hb1)
    (try simp only [])
    refine hK.out _ _ HH.out (fun hHeld => ?_)
    clear hb1
    clear hK K
    (try simp only [Act.put, List.getElem_toArray, List.getElem_cons_succ, List.getElem_cons_zero, List.setIfInBounds_toArray, List.set_cons_succ, List.set_cons_zero])
    refine wpAnyH_ready (rs := [6]) (by kernel_rfl) (by simp) ?_
    refine AllReadyH.cons rfl (fun K hK => ?_) AllReadyH.nil
    rw [if_pos (by rfl)]
    go_simp
    refine (HE1.out _ HH.out).mono ?_
    rintro e w1 ⟨rfl, hb1⟩
    have HH := Lib.hid (HH.out.next hb1)
    (try simp only [])
    refine hK.out _ _ HH.out (fun hHeld => ?_)
    clear hb1
    clear hK K
    (try simp only [Act.put, List.getElem_toArray, List.getElem_cons_succ, List.getElem_cons_zero, List.setIfInBounds_toArray, List.set_cons_succ, List.set_cons_zero])
    refine wpAnyH_ready (rs := [10]) (by kernel_rfl) (by simp) ?_
    refine AllReadyH.cons rfl (fun K hK => ?_) AllReadyH.nil
    rw [if_pos (by rfl)]
    go_simp
    refine (HE2.out _ HH.out).mono ?_
    rintro e w1 ⟨rfl, hb1⟩
    have HH := Lib.hid (HH.out.next hb1)
    (try simp only [])
    refine hK.out _ _ HH.out (fun hHeld => ?_)
    clear hb1
    clear hK K
    (try simp only [Act.put, List.getElem_toArray, List.getElem_cons_succ, List.getElem_cons_zero, List.setIfInBounds_toArray, List.set_cons_succ, List.set_cons_zero])
    refine wpAnyH_take (i := 11) (v := ?_) rfl (by kernel_rfl) (by kernel_rfl) (by kernel_rfl) (fun _ _ _ h => h) (Or.inl ⟨by rfl, ?_⟩) hHeld ?_
    rotate_left
    · (intro wx hSx; obtain ⟨t0, t1, t2⟩ := hSx.1; go_simp; (try with_reducible rfl))
    (try simp only [Act.put, List.getElem_toArray, List.getElem_cons_succ, List.getElem_cons_zero, List.setIfInBounds_toArray, List.set_cons_succ, List.set_cons_zero])
    refine wpAnyH_take (i := 12) (v := ?_) rfl (by kernel_rfl) (by kernel_rfl) (by kernel_rfl) (fun _ _ _ h => h) (Or.inl ⟨by rfl, ?_⟩) hHeld ?_
    rotate_left
    · (intro wx hSx; obtain ⟨t0, t1, t2⟩ := hSx.1; go_simp; (try with_reducible rfl))
    (try simp only [Act.put, List.getElem_toArray, List.getElem_cons_succ, List.getElem_cons_zero, List.setIfInBounds_toArray, List.set_cons_succ, List.set_cons_zero])
    refine wpAnyH_done (by kernel_rfl) ?_ _
    clear hHeld
    clear t0 t1 t2
    obtain ⟨t0, t1, t2⟩ := HH.out.1
    go_upto_region 4 with fail
    rw [show (if (if e0 < e1 then e1 else e0) < e2 then e2 else if e0 < e1 then e1 else e0) = max (max e0 e1) e2 by (repeat' split) <;> omega]
    generalize max (max e0 e1) e2 = mx at *
    have HH := Lib.hid HH.out.drew
    refine wp_region_held_drew (S := (InT w (.slice A2 s.pe.length c2) (.slice A3 s.fl.length c3) (.slice A4 s.ac.length c4))) (by kernel_rfl) HH.out (fun hHeld => ?_)
    refine wpAnyH_take (i := 0) (v := ?_) rfl (by kernel_rfl) (by kernel_rfl) (by kernel_rfl) (fun _ _ _ h => h) (Or.inl ⟨by rfl, ?_⟩) hHeld ?_
    rotate_left
    · (intro wx hSx; obtain ⟨t0, t1, t2⟩ := hSx.1; go_simp; (try with_reducible rfl))
    (try simp only [Act.put, List.getElem_toArray, List.getElem_cons_zero, List.setIfInBounds_toArray, List.set_cons_succ, List.set_cons_zero])
    refine wpAnyH_take (i := 1) (v := ?_) rfl (by kernel_rfl) (by kernel_rfl) (by kernel_rfl) (fun _ _ _ h => h) (Or.inl ⟨by rfl, ?_⟩) hHeld ?_
    rotate_left
    · (intro wx hSx; obtain ⟨t0, t1, t2⟩ := hSx.1; go_simp; (try with_reducible rfl))
    (try simp only [Act.put, List.getElem_toArray, List.getElem_cons_succ, List.getElem_cons_zero, List.setIfInBounds_toArray, List.set_cons_succ, List.set_cons_zero])
    refine wpAnyH_take (i := 2) (v := ?_) rfl (by kernel_rfl) (by kernel_rfl) (by kernel_rfl) (fun _ _ _ h => h) (Or.inl ⟨by rfl, ?_⟩) hHeld ?_
    rotate_left
    · (intro wx hSx; obtain ⟨t0, t1, t2⟩ := hSx.1; go_simp; (try with_reducible rfl))
    (try simp only [Act.put, List.getElem_toArray, List.getElem_cons_succ, List.getElem_cons_zero, List.setIfInBounds_toArray, List.set_cons_succ, List.set_cons_zero])
    refine wpAnyH_take (i := 3) (v := ?_) rfl (by kernel_rfl) (by kernel_rfl) (by kernel_rfl) (fun _ _ _ h => h) (Or.inl ⟨by rfl, ?_⟩) hHeld ?_
    rotate_left
    · (intro wx hSx; obtain ⟨t0, t1, t2⟩ := hSx.1; go_simp; (try with_reducible rfl))
    (try simp only [Act.put, List.getElem_toArray, List.getElem_cons_succ, List.getElem_cons_zero, List.setIfInBounds_toArray, List.set_cons_succ, List.set_cons_zero])
    refine wpAnyH_take (i := 4) (v := ?_) rfl (by kernel_rfl) (by kernel_rfl) (by kernel_rfl) (fun _ _ _ h => h) (Or.inl ⟨by rfl, ?_⟩) hHeld ?_
    rotate_left
    · (intro wx hSx; obtain ⟨t0, t1, t2⟩ := hSx.1; go_simp; (try with_reducible rfl))
    (try simp only [Act.put, List.getElem_toArray, List.getElem_cons_succ, List.getElem_cons_zero, List.setIfInBounds_toArray, List.set_cons_succ, List.set_cons_zero])
    refine wpAnyH_take (i := 5) (v := ?_) rfl (by kernel_rfl) (by kernel_rfl) (by kernel_rfl) (fun _ _ _ h => h) (Or.inl ⟨by rfl, ?_⟩) hHeld ?_
    rotate_left
    · (intro wx hSx; obtain ⟨t0, t1, t2⟩ := hSx.1; go_simp; (try with_reducible rfl))
    (try simp only [Act.put, List.getElem_toArray, List.getElem_cons_succ, List.getElem_cons_zero, List.setIfInBounds_toArray, List.set_cons_succ, List.set_cons_zero])
    refine wpAnyH_take (i := 6) (v := ?_) rfl (by kernel_rfl) (by kernel_rfl) (by kernel_rfl) (fun _ _ _ h => h) (Or.inl ⟨by rfl, ?_⟩) hHeld ?_
    rotate_left
    · (intro wx hSx; obtain ⟨t0, t1, t2⟩ := hSx.1; go_simp; (try with_reducible rfl))
    (try simp only [Act.put, List.getElem_toArray, List.getElem_cons_succ, List.getElem_cons_zero, List.setIfInBounds_toArray, List.set_cons_succ, List.set_cons_zero])
    refine wpAnyH_take (i := 8) (v := ?_) rfl (by kernel_rfl) (by kernel_rfl) (by kernel_rfl) (fun _ _ _ h => h) (Or.inl ⟨by rfl, ?_⟩) hHeld ?_
    rotate_left
    · (intro wx hSx; obtain ⟨t0, t1, t2⟩ := hSx.1; go_simp; (try with_reducible rfl))
    (try simp only [Act.put, List.getElem_toArray, List.getElem_cons_succ, List.getElem_cons_zero, List.setIfInBounds_toArray, List.set_cons_succ, List.set_cons_zero])
    refine wpAnyH_take (i := 9) (v := ?_) rfl (by kernel_rfl) (by kernel_rfl) (by kernel_rfl) (fun _ _ _ h => h) (Or.inl ⟨by rfl, ?_⟩) hHeld ?_
    rotate_left
    · (intro wx hSx; obtain ⟨t0, t1, t2⟩ := hSx.1; go_simp; (try with_reducible rfl))
    (try simp only [Act.put, List.getElem_toArray, List.getElem_cons_succ, List.getElem_cons_zero, List.setIfInBounds_toArray, List.set_cons_succ, List.set_cons_zero])
    refine wpAnyH_take (i := 12) (v := ?_) rfl (by kernel_rfl) (by kernel_rfl) (by kernel_rfl) (fun _ _ _ h => h) (Or.inl ⟨by rfl, ?_⟩) hHeld ?_
    rotate_left
    · (intro wx hSx; obtain ⟨t0, t1, t2⟩ := hSx.1; go_simp; (try with_reducible rfl))
    (try simp only [Act.put, List.getElem_toArray, List.getElem_cons_succ, List.getElem_cons_zero, List.setIfInBounds_toArray, List.set_cons_succ, List.set_cons_zero])
    refine wpAnyH_take (i := 13) (v := ?_) rfl (by kernel_rfl) (by kernel_rfl) (by kernel_rfl) (fun _ _ _ h => h) (Or.inl ⟨by rfl, ?_⟩) hHeld ?_
    rotate_left
    · (intro wx hSx; obtain ⟨t0, t1, t2⟩ := hSx.1; go_simp; (try with_reducible rfl))
    (try simp only [Act.put, List.getElem_toArray, List.getElem_cons_succ, List.getElem_cons_zero, List.setIfInBounds_toArray, List.set_cons_succ, List.set_cons_zero])
    refine wpAnyH_take (i := 14) (v := ?_) rfl (by kernel_rfl) (by kernel_rfl) (by kernel_rfl) (fun _ _ _ h => h) (Or.inl ⟨by rfl, ?_⟩) hHeld ?_
    rotate_left
    · (intro wx hSx; obtain ⟨t0, t1, t2⟩ := hSx.1; go_simp; (try with_reducible rfl))
    (try simp only [Act.put, List.getElem_toArray, List.getElem_cons_succ, List.getElem_cons_zero, List.setIfInBounds_toArray, List.set_cons_succ, List.set_cons_zero])
    refine wpAnyH_take (i := 17) (v := ?_) rfl (by kernel_rfl) (by kernel_rfl) (by kernel_rfl) (fun _ _ _ h => h) (Or.inl ⟨by rfl, ?_⟩) hHeld ?_
    rotate_left
    · (intro wx hSx; obtain ⟨t0, t1, t2⟩ := hSx.1; go_simp; (try with_reducible rfl))
    (try simp only [Act.put, List.getElem_toArray, List.getElem_cons_succ, List.getElem_cons_zero, List.setIfInBounds_toArray, List.set_cons_succ, List.set_cons_zero])
    refine wpAnyH_ready (rs := [7]) (by kernel_rfl) (by simp) ?_
    refine AllReadyH.cons rfl (fun K hK => ?_) AllReadyH.nil
    rw [if_pos (by rfl)]
    go_simp
    refine (HN0.out _ HH.out).mono ?_
    rintro e w1 ⟨rfl, hb1⟩
    have HH := Lib.hid (HH.out.next hb1)
    (try simp only [])
    refine hK.out _ _ HH.out (fun hHeld => ?_)
    clear hb1
    clear hK K
    (try simp only [Act.put, List.getElem_toArray, List.getElem_cons_succ, List.getElem_cons_zero, List.setIfInBounds_toArray, List.set_cons_succ, List.set_cons_zero])
    refine wpAnyH_ready (rs := [10]) (by kernel_rfl) (by simp) ?_
    refine AllReadyH.cons rfl (fun K hK => ?_) AllReadyH.nil
    rw [if_pos (by rfl)]
    go_simp
    refine (HN1.out _ HH.out).mono ?_
    rintro e w1 ⟨rfl, hb1⟩
    have HH := Lib.hid (HH.out.next hb1)
    (try simp only [])
    refine hK.out _ _ HH.out (fun hHeld => ?_)
    clear hb1
    clear hK K
    (try simp only [Act.put, List.getElem_toArray, List.getElem_cons_succ, List.getElem_cons_zero, List.setIfInBounds_toArray, List.set_cons_succ, List.set_cons_zero])
    refine wpAnyH_take (i := 11) (v := ?_) rfl (by kernel_rfl) (by kernel_rfl) (by kernel_rfl) (fun _ _ _ h => h) (Or.inl ⟨by rfl, ?_⟩) hHeld ?_
    rotate_left
    · (intro wx hSx; obtain ⟨t0, t1, t2⟩ := hSx.1; go_simp; (try with_reducible rfl))
    (try simp only [Act.put, List.getElem_toArray, List.getElem_cons_succ, List.getElem_cons_zero, List.setIfInBounds_toArray, List.set_cons_succ, List.set_cons_zero])
    refine wpAnyH_ready (rs := [15]) (by kernel_rfl) (by simp) ?_
    refine AllReadyH.cons rfl (fun K hK => ?_) AllReadyH.nil
    rw [if_pos (by rfl)]
    go_simp
    refine (HN2.out _ HH.out).mono ?_
    rintro e w1 ⟨rfl, hb1⟩
    have HH := Lib.hid (HH.out.next hb1)
    (try simp only [])
    refine hK.out _ _ HH.out (fun hHeld => ?_)
    clear hb1
    clear hK K
    (try simp only [Act.put, List.getElem_toArray, List.getElem_cons_succ, List.getElem_cons_zero, List.setIfInBounds_toArray, List.set_cons_succ, List.set_cons_zero])
    refine wpAnyH_take (i := 16) (v := ?_) rfl (by kernel_rfl) (by kernel_rfl) (by kernel_rfl) (fun _ _ _ h => h) (Or.inl ⟨by rfl, ?_⟩) hHeld ?_
    rotate_left
    · (intro wx hSx; obtain ⟨t0, t1, t2⟩ := hSx.1; go_simp; (try with_reducible rfl))
    (try simp only [Act.put, List.getElem_toArray, List.getElem_cons_succ, List.getElem_cons_zero, List.setIfInBounds_toArray, List.set_cons_succ, List.set_cons_zero])
    refine wpAnyH_take (i := 18) (v := ?_) rfl (by kernel_rfl) (by kernel_rfl) (by kernel_rfl) (fun _ _ _ h => h) (Or.inl ⟨by rfl, ?_⟩) hHeld ?_
    rotate_left
    · (intro wx hSx; obtain ⟨t0, t1, t2⟩ := hSx.1; go_simp; (try with_reducible rfl))
    (try simp only [Act.put, List.getElem_toArray, List.getElem_cons_succ, List.getElem_cons_zero, List.setIfInBounds_toArray, List.set_cons_succ, List.set_cons_zero])
    refine wpAnyH_take (i := 19) (v := ?_) rfl (by kernel_rfl) (by kernel_rfl) (by kernel_rfl) (fun _ _ _ h => h) (Or.inl ⟨by rfl, ?_⟩) hHeld ?_
    rotate_left
    · (intro wx hSx; obtain ⟨t0, t1, t2⟩ := hSx.1; go_simp; (try with_reducible rfl))
    (try simp only [Act.put, List.getElem_toArray, List.getElem_cons_succ, List.getElem_cons_zero, List.setIfInBounds_toArray, List.set_cons_succ, List.set_cons_zero])
    refine wpAnyH_take (i := 20) (v := ?_) rfl (by kernel_rfl) (by kernel_rfl) (by kernel_rfl) (fun _ _ _ h => h) (Or.inl ⟨by rfl, ?_⟩) hHeld ?_
    rotate_left
    · (intro wx hSx; obtain ⟨t0, t1, t2⟩ := hSx.1; go_simp; (try with_reducible rfl))
    (try simp only [Act.put, List.getElem_toArray, List.getElem_cons_succ, List.getElem_cons_zero, List.setIfInBounds_toArray, List.set_cons_succ, List.set_cons_zero])
    refine wpAnyH_done (by kernel_rfl) ?_ _
    clear hHeld
    go_wp2
    go_ret
    exact ⟨rfl, HH.out.2.2⟩
  · skip
    have d5 : (max (max e0 e1) e2 == s.rn.en) = false := by simpa using h5
    have HV : Hid (decide (max (max e0 e1) e2 = s.rn.en ∧ n0 + n1 + n2 = s.rn.en) = false) := Lib.hid (decide_eq_false fun k => h5 k.1)
    rw [HV.out]
    clear h5 HV HNN HLW
    go_enter Try.func78, Try.ntmps78
    obtain ⟨t0, t1, t2⟩ := HH.out.1
    go_wp2_with fail
    refine (HM0.out _ HH.out).mono ?_
    rintro e w1 ⟨rfl, hb1⟩
    have HH := Lib.hid (HH.out.next hb1)
    clear hb1 t0 t1 t2
    obtain ⟨t0, t1, t2⟩ := HH.out.1
    go_wp2_with fail
    refine (HM1.out _ HH.out).mono ?_
    rintro e w1 ⟨rfl, hb1⟩
    have HH := Lib.hid (HH.out.next hb1)
    clear hb1 t0 t1 t2
    obtain ⟨t0, t1, t2⟩ := HH.out.1
    go_wp2_with fail
    refine (HM2.out _ HH.out).mono ?_
    rintro e w1 ⟨rfl, hb1⟩
    have HH := Lib.hid (HH.out.next hb1)
    clear hb1 t0 t1 t2
    obtain ⟨t0, t1, t2⟩ := HH.out.1
    go_upto_region 3 with fail
    have HH := Lib.hid HH.out.drew
    refine wp_region_held_drew (S := (InT w (.slice A2 s.pe.length c2) (.slice A3 s.fl.length c3) (.slice A4 s.ac.length c4))) (by kernel_rfl) HH.out (fun hHeld => ?_)
    refine wpAnyH_take (i := 0) (v := ?_) rfl (by kernel_rfl) (by kernel_rfl) (by kernel_rfl) (fun _ _ _ h => h) (Or.inl ⟨by rfl, ?_⟩) hHeld ?_
    rotate_left
    · (intro wx hSx; obtain ⟨t0, t1, t2⟩ := hSx.1; go_simp; (try with_reducible rfl))
    (try simp only [Act.put, List.getElem_toArray, List.getElem_cons_zero, List.setIfInBounds_toArray, List.set_cons_succ, List.set_cons_zero])
    refine wpAnyH_take (i := 1) (v := ?_) rfl (by kernel_rfl) (by kernel_rfl) (by kernel_rfl) (fun _ _ _ h => h) (Or.inl ⟨by rfl, ?_⟩) hHeld ?_
    rotate_left
    · (intro wx hSx; obtain ⟨t0, t1, t2⟩ := hSx.1; go_simp; (try with_reducible rfl))
    (try simp only [Act.put, List.getElem_toArray, List.getElem_cons_succ, List.getElem_cons_zero, List.setIfInBounds_toArray, List.set_cons_succ, List.set_cons_zero])
    refine wpAnyH_take (i := 2) (v := ?_) rfl (by kernel_rfl) (by kernel_rfl) (by kernel_rfl) (fun _ _ _ h => h) (Or.inl ⟨by rfl, ?_⟩) hHeld ?_
    rotate_left
    · (intro wx hSx; obtain ⟨t0, t1, t2⟩ := hSx.1; go_simp; (try with_reducible rfl))
    (try simp only [Act.put, List.getElem_toArray, List.getElem_cons_succ, List.getElem_cons_zero, List.setIfInBounds_toArray, List.set_cons_succ, List.set_cons_zero])
    refine wpAnyH_take (i := 4) (v := ?_) rfl (by kernel_rfl) (by kernel_rfl) (by kernel_rfl) (fun _ _ _ h => h) (Or.inl ⟨by rfl, ?_⟩) hHeld ?_
    rotate_left
    · (intro wx hSx; obtain ⟨t0, t1, t2⟩ := hSx.1; go_simp; (try with_reducible rfl))
    (try simp only [Act.put, List.getElem_toArray, List.getElem_cons_succ, List.getElem_cons_zero, List.setIfInBounds_toArray, List.set_cons_succ, List.set_cons_zero])
    refine wpAnyH_take (i := 5) (v := ?_) rfl (by kernel_rfl) (by kernel_rfl) (by kernel_rfl) (fun _ _ _ h => h) (Or.inl ⟨by rfl, ?_⟩) hHeld ?_
    rotate_left
    · (intro wx hSx; obtain ⟨t0, t1, t2⟩ := hSx.1; go_simp; (try with_reducible rfl))
    (try simp only [Act.put, List.getElem_toArray, List.getElem_cons_succ, List.getElem_cons_zero, List.setIfInBounds_toArray, List.set_cons_succ, List.set_cons_zero])
    refine wpAnyH_take (i := 7) (v := ?_) rfl (by kernel_rfl) (by kernel_rfl) (by kernel_rfl) (fun _ _ _ h => h) (Or.inl ⟨by rfl, ?_⟩) hHeld ?_
    rotate_left
    · (intro wx hSx; obtain ⟨t0, t1, t2⟩ := hSx.1; go_simp; (try with_reducible rfl))
    (try simp only [Act.put, List.getElem_toArray, List.getElem_cons_succ, List.getElem_cons_zero, List.setIfInBounds_toArray, List.set_cons_succ, List.set_cons_zero])
    refine wpAnyH_take (i := 8) (v := ?_) rfl (by kernel_rfl) (by kernel_rfl) (by kernel_rfl) (fun _ _ _ h => h) (Or.inl ⟨by rfl, ?_⟩) hHeld ?_
    rotate_left
    · (intro wx hSx; obtain ⟨t0, t1, t2⟩ := hSx.1; go_simp; (try with_reducible rfl))
    (try simp only [Act.put, List.getElem_toArray, List.getElem_cons_succ, List.getElem_cons_zero, List.setIfInBounds_toArray, List.set_cons_succ, List.set_cons_zero])
    refine wpAnyH_take (i := 9) (v := ?_) rfl (by kernel_rfl) (by kernel_rfl) (by kernel_rfl) (fun _ _ _ h => h) (Or.inl ⟨by rfl, ?_⟩) hHeld ?_
    rotate_left
    · (intro wx hSx; obtain ⟨t0, t1, t2⟩ := hSx.1; go_simp; (try with_reducible rfl))
    (try simp only [Act.put, List.getElem_toArray, List.getElem_cons_succ, List.getElem_cons_zero, List.setIfInBounds_toArray, List.set_cons_succ, List.set_cons_zero])
    refine wpAnyH_ready (rs := [3]) (by kernel_rfl) (by simp) ?_
    refine AllReadyH.cons rfl (fun K hK => ?_) AllReadyH.nil
    rw [if_pos (by rfl)]
    go_simp
    refine (HE0.out _ HH.out).mono ?_
    rintro e w1 ⟨rfl, hb1⟩
    have HH := Lib.hid (HH.out.next hb1)
    (try simp only [])
    refine hK.out _ _ HH.out (fun hHeld => ?_)
    clear hb1
    clear hK K
    (try simp only [Act.put, List.getElem_toArray, List.getElem_cons_succ, List.getElem_cons_zero, List.setIfInBounds_toArray, List.set_cons_succ, List.set_cons_zero])
    refine wpAnyH_ready (rs := [6]) (by kernel_rfl) (by simp) ?_
    refine AllReadyH.cons rfl (fun K hK => ?_) AllReadyH.nil
    rw [if_pos (by rfl)]
    go_simp
    refine (HE1.out _ HH.out).mono ?_
    rintro e w1 ⟨rfl, hb1⟩
    have HH := Lib.hid (HH.out.next hb1)
    (try simp only [])
    refine hK.out _ _ HH.out (fun hHeld => ?_)
    clear hb1
    clear hK K
    (try simp only [Act.put, List.getElem_toArray, List.getElem_cons_succ, List.getElem_cons_zero, List.setIfInBounds_toArray, List.set_cons_succ, List.set_cons_zero])
    refine wpAnyH_ready (rs := [10]) (by kernel_rfl) (by simp) ?_
    refine AllReadyH.cons rfl (fun K hK => ?_) AllReadyH.nil
    rw [if_pos (by rfl)]
    go_simp
    refine (HE2.out _ HH.out).mono ?_
    rintro e w1 ⟨rfl, hb1⟩
    have HH := Lib.hid (HH.out.next hb1)
    (try simp only [])
    refine hK.out _ _ HH.out (fun hHeld => ?_)
    clear hb1
    clear hK K
    (try simp only [Act.put, List.getElem_toArray, List.getElem_cons_succ, List.getElem_cons_zero, List.setIfInBounds_toArray, List.set_cons_succ, List.set_cons_zero])
    refine wpAnyH_take (i := 11) (v := ?_) rfl (by kernel_rfl) (by kernel_rfl) (by kernel_rfl) (fun _ _ _ h => h) (Or.inl ⟨by rfl, ?_⟩) hHeld ?_
    rotate_left
    · (intro wx hSx; obtain ⟨t0, t1, t2⟩ := hSx.1; go_simp; (try with_reducible rfl))
    (try simp only [Act.put, List.getElem_toArray, List.getElem_cons_succ, List.getElem_cons_zero, List.setIfInBounds_toArray, List.set_cons_succ, List.set_cons_zero])
    refine wpAnyH_take (i := 12) (v := ?_) rfl (by kernel_rfl) (by kernel_rfl) (by kernel_rfl) (fun _ _ _ h => h) (Or.inl ⟨by rfl, ?_⟩) hHeld ?_
    rotate_left
    · (intro wx hSx; obtain ⟨t0, t1, t2⟩ := hSx.1; go_simp; (try with_reducible rfl))
    (try simp only [Act.put, List.getElem_toArray, List.getElem_cons_succ, List.getElem_cons_zero, List.setIfInBounds_toArray, List.set_cons_succ, List.set_cons_zero])
    refine wpAnyH_done (by kernel_rfl) ?_ _
    clear hHeld
    clear t0 t1 t2
    obtain ⟨t0, t1, t2⟩ := HH.out.1
    go_upto_region 4 with fail
    rw [show (if (if e0 < e1 then e1 else e0) < e2 then e2 else if e0 < e1 then e1 else e0) = max (max e0 e1) e2 by (repeat' split) <;> omega]
    generalize max (max e0 e1) e2 = mx at *
    have HH := Lib.hid HH.out.drew
    refine wp_region_held_drew (S := (InT w (.slice A2 s.pe.length c2) (.slice A3 s.fl.length c3) (.slice A4 s.ac.length c4))) (by kernel_rfl) HH.out (fun hHeld => ?_)
    refine wpAnyH_take (i := 0) (v := ?_) rfl (by kernel_rfl) (by kernel_rfl) (by kernel_rfl) (fun _ _ _ h => h) (Or.inl ⟨by rfl, ?_⟩) hHeld ?_
    rotate_left
    · (intro wx hSx; obtain ⟨t0, t1, t2⟩ := hSx.1; go_simp; (try with_reducible rfl))
    (try simp only [Act.put, List.getElem_toArray, List.getElem_cons_zero, List.setIfInBounds_toArray, List.set_cons_succ, List.set_cons_zero])
    refine wpAnyH_take (i := 1) (v := ?_) rfl (by kernel_rfl) (by kernel_rfl) (by kernel_rfl) (fun _ _ _ h => h) (Or.inl ⟨by rfl, ?_⟩) hHeld ?_
    rotate_left
    · (intro wx hSx; obtain ⟨t0, t1, t2⟩ := hSx.1; go_simp; (try with_reducible rfl))
    (try simp only [Act.put, List.getElem_toArray, List.getElem_cons_succ, List.getElem_cons_zero, List.setIfInBounds_toArray, List.set_cons_succ, List.set_cons_zero])
    refine wpAnyH_take (i := 2) (v := ?_) rfl (by kernel_rfl) (by kernel_rfl) (by kernel_rfl) (fun _ _ _ h => h) (Or.inl ⟨by rfl, ?_⟩) hHeld ?_
    rotate_left
    · (intro wx hSx; obtain ⟨t0, t1, t2⟩ := hSx.1; go_simp; (try with_reducible rfl))
    (try simp only [Act.put, List.getElem_toArray, List.getElem_cons_succ, List.getElem_cons_zero, List.setIfInBounds_toArray, List.set_cons_succ, List.set_cons_zero])
    refine wpAnyH_take (i := 3) (v := ?_) rfl (by kernel_rfl) (by kernel_rfl) (by kernel_rfl) (fun _ _ _ h => h) (Or.inl ⟨by rfl, ?_⟩) hHeld ?_
    rotate_left
    · (intro wx hSx; obtain ⟨t0, t1, t2⟩ := hSx.1; go_simp; (try with_reducible rfl))
    (try simp only [Act.put, List.getElem_toArray, List.getElem_cons_succ, List.getElem_cons_zero, List.setIfInBounds_toArray, List.set_cons_succ, List.set_cons_zero])
    refine wpAnyH_take (i := 4) (v := undef) rfl (by kernel_rfl) (by kernel_rfl) (by kernel_rfl) (fun _ _ _ h => h) (Or.inr ⟨by rfl, rfl⟩) hHeld ?_
    (try simp only [Act.put, List.getElem_toArray, List.getElem_cons_succ, List.getElem_cons_zero, List.setIfInBounds_toArray, List.set_cons_succ, List.set_cons_zero])
    refine wpAnyH_take (i := 5) (v := undef) rfl (by kernel_rfl) (by kernel_rfl) (by kernel_rfl) (fun _ _ _ h => h) (Or.inr ⟨by rfl, rfl⟩) hHeld ?_
    (try simp only [Act.put, List.getElem_toArray, List.getElem_cons_succ, List.getElem_cons_zero, List.setIfInBounds_toArray, List.set_cons_succ, List.set_cons_zero])
    refine wpAnyH_take (i := 6) (v := undef) rfl (by kernel_rfl) (by kernel_rfl) (by kernel_rfl) (fun _ _ _ h => h) (Or.inr ⟨by rfl, rfl⟩) hHeld ?_
    (try simp only [Act.put, List.getElem_toArray, List.getElem_cons_succ, List.getElem_cons_zero, List.setIfInBounds_toArray, List.set_cons_succ, List.set_cons_zero])
    refine wpAnyH_take (i := 7) (v := undef) rfl (by kernel_rfl) (by kernel_rfl) (by kernel_rfl) (fun _ _ _ h => h) (Or.inr ⟨by rfl, rfl⟩) hHeld ?_
    (try simp only [Act.put, List.getElem_toArray, List.getElem_cons_succ, List.getElem_cons_zero, List.setIfInBounds_toArray, List.set_cons_succ, List.set_cons_zero])
    refine wpAnyH_take (i := 8) (v := undef) rfl (by kernel_rfl) (by kernel_rfl) (by kernel_rfl) (fun _ _ _ h => h) (Or.inr ⟨by rfl, rfl⟩) hHeld ?_
    (try simp only [Act.put, List.getElem_toArray, List.getElem_cons_succ, List.getElem_cons_zero, List.setIfInBounds_toArray, List.set_cons_succ, List.set_cons_zero])
    refine wpAnyH_take (i := 9) (v := undef) rfl (by kernel_rfl) (by kernel_rfl) (by kernel_rfl) (fun _ _ _ h => h) (Or.inr ⟨by rfl, rfl⟩) hHeld ?_
    (try simp only [Act.put, List.getElem_toArray, List.getElem_cons_succ, List.getElem_cons_zero, List.setIfInBounds_toArray, List.set_cons_succ, List.set_cons_zero])
    refine wpAnyH_take (i := 10) (v := undef) rfl (by kernel_rfl) (by kernel_rfl) (by kernel_rfl) (fun _ _ _ h => h) (Or.inr ⟨by rfl, rfl⟩) hHeld ?_
    (try simp only [Act.put, List.getElem_toArray, List.getElem_cons_succ, List.getElem_cons_zero, List.setIfInBounds_toArray, List.set_cons_succ, List.set_cons_zero])
    refine wpAnyH_take (i := 11) (v := undef) rfl (by kernel_rfl) (by kernel_rfl) (by kernel_rfl) (fun _ _ _ h => h) (Or.inr ⟨by rfl, rfl⟩) hHeld ?_
    (try simp only [Act.put, List.getElem_toArray, List.getElem_cons_succ, List.getElem_cons_zero, List.setIfInBounds_toArray, List.set_cons_succ, List.set_cons_zero])
    refine wpAnyH_take (i := 12) (v := undef) rfl (by kernel_rfl) (by kernel_rfl) (by kernel_rfl) (fun _ _ _ h => h) (Or.inr ⟨by rfl, rfl⟩) hHeld ?_
    (try simp only [Act.put, List.getElem_toArray, List.getElem_cons_succ, List.getElem_cons_zero, List.setIfInBounds_toArray, List.set_cons_succ, List.set_cons_zero])
    refine wpAnyH_take (i := 13) (v := undef) rfl (by kernel_rfl) (by kernel_rfl) (by kernel_rfl) (fun _ _ _ h => h) (Or.inr ⟨by rfl, rfl⟩) hHeld ?_
    (try simp only [Act.put, List.getElem_toArray, List.getElem_cons_succ, List.getElem_cons_zero, List.setIfInBounds_toArray, List.set_cons_succ, List.set_cons_zero])
    refine wpAnyH_take (i := 14) (v := undef) rfl (by kernel_rfl) (by kernel_rfl) (by kernel_rfl) (fun _ _ _ h => h) (Or.inr ⟨by rfl, rfl⟩) hHeld ?_
    (try simp only [Act.put, List.getElem_toArray, List.getElem_cons_succ, List.getElem_cons_zero, List.setIfInBounds_toArray, List.set_cons_succ, List.set_cons_zero])
    refine wpAnyH_take (i := 15) (v := undef) rfl (by kernel_rfl) (by kernel_rfl) (by kernel_rfl) (fun _ _ _ h => h) (Or.inr ⟨by rfl, rfl⟩) hHeld ?_
    (try simp only [Act.put, List.getElem_toArray, List.getElem_cons_succ, List.getElem_cons_zero, List.setIfInBounds_toArray, List.set_cons_succ, List.set_cons_zero])
    refine wpAnyH_take (i := 16) (v := undef) rfl (by kernel_rfl) (by kernel_rfl) (by kernel_rfl) (fun _ _ _ h => h) (Or.inr ⟨by rfl, rfl⟩) hHeld ?_
    (try simp only [Act.put, List.getElem_toArray, List.getElem_cons_succ, List.getElem_cons_zero, List.setIfInBounds_toArray, List.set_cons_succ, List.set_cons_zero])
    refine wpAnyH_take (i := 17) (v := undef) rfl (by kernel_rfl) (by kernel_rfl) (by kernel_rfl) (fun _ _ _ h => h) (Or.inr ⟨by rfl, rfl⟩) hHeld ?_
    (try simp only [Act.put, List.getElem_toArray, List.getElem_cons_succ, List.getElem_cons_zero, List.setIfInBounds_toArray, List.set_cons_succ, List.set_cons_zero])
    refine wpAnyH_take (i := 18) (v := undef) rfl (by kernel_rfl) (by kernel_rfl) (by kernel_rfl) (fun _ _ _ h => h) (Or.inr ⟨by rfl, rfl⟩) hHeld ?_
    (try simp only [Act.put, List.getElem_toArray, List.getElem_cons_succ, List.getElem_cons_zero, List.setIfInBounds_toArray, List.set_cons_succ, List.set_cons_zero])
    refine wpAnyH_take (i := 19) (v := ?_) rfl (by kernel_rfl) (by kernel_rfl) (by kernel_rfl) (fun _ _ _ h => h) (Or.inl ⟨by rfl, ?_⟩) hHeld ?_
    rotate_left
    · (intro wx hSx; obtain ⟨t0, t1, t2⟩ := hSx.1; go_simp; (try with_reducible rfl))
    (try simp only [Act.put, List.getElem_toArray, List.getElem_cons_succ, List.getElem_cons_zero, List.setIfInBounds_toArray, List.set_cons_succ, List.set_cons_zero])
    refine wpAnyH_take (i := 20) (v := ?_) rfl (by kernel_rfl) (by kernel_rfl) (by kernel_rfl) (fun _ _ _ h => h) (Or.inl ⟨by rfl, ?_⟩) hHeld ?_
    rotate_left
    · (intro wx hSx; obtain ⟨t0, t1, t2⟩ := hSx.1; go_simp; (try with_reducible rfl))
    (try simp only [Act.put, List.getElem_toArray, List.getElem_cons_succ, List.getElem_cons_zero, List.setIfInBounds_toArray, List.set_cons_succ, List.set_cons_zero])
    refine wpAnyH_done (by kernel_rfl) ?_ _
    clear hHeld
    go_wp2
    go_ret
    exact ⟨rfl, HH.out.2.2⟩
end Go.Proofs.Ytjohbfdifdjldac

namespace Go.Proofs.Ytjohbfdifdjldac
open Go.RowKit Go.Deep Go.Proofs.Ytjohbfdifdjldac.Num

/-- Three sets and a sender, boxed. -/
def InTS (w : World) (s : Sn) (v1 v2 v3 v4 : Value) (W : World) : Prop := InT w v2 v3 v4 W ∧ RowS W (w.heap.size + 1) s v1 v2 v3 v4
theorem InTS.start (w : World) (s : Sn) (v1 v2 v3 v4 : Value) (t : TypeId) : InTS w s v1 v2 v3 v4 ((w.alloc (.cells #[v2, v3, v4] t)).alloc (.cells (snB s v1 v2 v3 v4) 35)) := by
  have h1 : (w.alloc (.cells #[v2, v3, v4] t)).heap.size = w.heap.size + 1 := by simp
  refine ⟨(InT.start w v2 v3 v4 t).next ((Below.refl _ _).alloc (Nat.le_refl _) _), ?_⟩
  have h := RowS.new (w.alloc (.cells #[v2, v3, v4] t)) s v1 v2 v3 v4
  rw [h1] at h
  exact h
theorem InTS.next {w : World} {s : Sn} {v1 v2 v3 v4 : Value} {W W' : World} (h : InTS w s v1 v2 v3 v4 W) (hb : Below W.heap.size W W') : InTS w s v1 v2 v3 v4 W' := ⟨h.1.next hb, h.2.below hb h.2.lt⟩
theorem InTS.drew {w : World} {s : Sn} {v1 v2 v3 v4 : Value} {W : World} (h : InTS w s v1 v2 v3 v4 W) : InTS w s v1 v2 v3 v4 W.drew := h.next (Below.refl _ _).drew
set_option maxRecDepth 100000 in
set_option maxHeartbeats 8000000 in
/-- impl's byteSets.agreeWith -/
theorem isbag (v1 : Value) (s : Sn) (A2 A3 A4 : Option Addr) (c2 c3 c4 B : Nat) (w : World) (hB : B ≤ w.heap.size) (hr : ReadT w B A2 A3 A4 s) (hn : LenT s) (hk : okR (-1) s.ac) :
    Calls Try.prog 79 #[.agg #[.slice A2 s.pe.length c2, .slice A3 s.fl.length c3, .slice A4 s.ac.length c4], snV s v1 (.slice A2 s.pe.length c2) (.slice A3 s.fl.length c3) (.slice A4 s.ac.length c4)] w fun e w' => e = .returned (.bool (decide (agrS s))) ∧ Below w.heap.size w w' := by
  have HH := Lib.hid (InTS.start w s v1 (.slice A2 s.pe.length c2) (.slice A3 s.fl.length c3) (.slice A4 s.ac.length c4) 70)
  have HG : Hid (∀ W, InTS w s v1 (.slice A2 s.pe.length c2) (.slice A3 s.fl.length c3) (.slice A4 s.ac.length c4) W → Calls Try.prog 99 #[.agg #[.slice A4 s.ac.length c4]] W fun e w' => e = .returned (.int .i64 (gapR s.ac 0)) ∧ Below W.heap.size W w') := Lib.hid fun W h => (isrm s.ac A4 c4 B W (Nat.le_trans hB h.1.2.2.size) (hr.2.2.below hB h.1.2.2) (by unfold LenT at hn; omega)).mono fun e w2 hh => ⟨by rw [hh.1, if_pos hk], hh.2⟩
  have HE1 : Hid (∀ W, InTS w s v1 (.slice A2 s.pe.length c2) (.slice A3 s.fl.length c3) (.slice A4 s.ac.length c4) W → Calls Try.prog 97 #[.agg #[.slice A3 s.fl.length c3]] W fun e w' => e = .returned (.int .i64 (lastS s.fl)) ∧ Below W.heap.size W w') := Lib.hid fun W h => isrd s.fl A3 c3 B W (Nat.le_trans hB h.1.2.2.size) (hr.2.1.below hB h.1.2.2) (by unfold LenT at hn; omega)
  have HE2 : Hid (∀ W, InTS w s v1 (.slice A2 s.pe.length c2) (.slice A3 s.fl.length c3) (.slice A4 s.ac.length c4) W → Calls Try.prog 97 #[.agg #[.slice A4 s.ac.length c4]] W fun e w' => e = .returned (.int .i64 (lastS s.ac)) ∧ Below W.heap.size W w') := Lib.hid fun W h => isrd s.ac A4 c4 B W (Nat.le_trans hB h.1.2.2.size) (hr.2.2.below hB h.1.2.2) (by unfold LenT at hn; omega)
  clear hr hn hk
  have HAG : Hid (agrS s ↔ s.rn.base = gapR s.ac 0 ∧ max (lastS s.fl) (lastS s.ac) ≤ s.sent) := Lib.hid Iff.rfl
  generalize lastS s.fl = e1 at *
  generalize lastS s.ac = e2 at *
  generalize gapR s.ac 0 = g0 at *
  obtain ⟨mx, hmx⟩ : ∃ m, max e1 e2 = m := ⟨_, rfl⟩
  rw [hmx] at HAG
  have HMX : Hid ((if e1 < e2 then e2 else e1) = mx) := Lib.hid (by rw [← hmx]; split <;> omega)
  clear hmx
  by_cases h5 : s.rn.base = g0
  · skip
    have d5 : (s.rn.base == g0) = true := by simpa using h5
    have HV : Hid (decide (agrS s) = decide (mx ≤ s.sent)) := Lib.hid (decide_eq_decide.2 (HAG.out.trans ⟨fun k => k.2, fun k => ⟨h5, k⟩⟩))
    clear h5 HAG
    rw [HV.out]
    go_enter Try.func79, Try.ntmps79
    go_upto_region 1 with fail
    generalize (w.alloc (.cells #[.slice A2 s.pe.length c2, .slice A3 s.fl.length c3, .slice A4 s.ac.length c4] 70)).alloc (.cells (snB s v1 (.slice A2 s.pe.length c2) (.slice A3 s.fl.length c3) (.slice A4 s.ac.length c4)) 35) = w2 at *
    have HH := Lib.hid HH.out.drew
    refine wp_region_held_drew (S := (InTS w s v1 (.slice A2 s.pe.length c2) (.slice A3 s.fl.length c3) (.slice A4 s.ac.length c4))) (by kernel_rfl) HH.out (fun hHeld => ?_)
    refine wpAnyH_take (i := 0) (v := ?_) rfl (by kernel_rfl) (by kernel_rfl) (by kernel_rfl) (fun _ _ _ h => h) (Or.inl ⟨by rfl, ?_⟩) hHeld ?_
    rotate_left
    · (intro wx hSx; obtain ⟨⟨⟨t0, t1, t2⟩, ⟨a0, a1, a2, a3, a4, a5, a6, a7, a8, a9, a10, a11⟩⟩, _⟩ : (_ ∧ _) ∧ True := ⟨⟨hSx.1.1, hSx.2.cells⟩, trivial⟩; go_simp; (try with_reducible rfl))
    (try simp only [Act.put, List.getElem_toArray, List.getElem_cons_zero, List.setIfInBounds_toArray, List.set_cons_succ, List.set_cons_zero])
    refine wpAnyH_take (i := 1) (v := ?_) rfl (by kernel_rfl) (by kernel_rfl) (by kernel_rfl) (fun _ _ _ h => h) (Or.inl ⟨by rfl, ?_⟩) hHeld ?_
    rotate_left
    · (intro wx hSx; obtain ⟨⟨⟨t0, t1, t2⟩, ⟨a0, a1, a2, a3, a4, a5, a6, a7, a8, a9, a10, a11⟩⟩, _⟩ : (_ ∧ _) ∧ True := ⟨⟨hSx.1.1, hSx.2.cells⟩, trivial⟩; go_simp; (try with_reducible rfl))
    (try simp only [Act.put, List.getElem_toArray, List.getElem_cons_succ, List.getElem_cons_zero, List.setIfInBounds_toArray, List.set_cons_succ, List.set_cons_zero])
    refine wpAnyH_take (i := 2) (v := ?_) rfl (by kernel_rfl) (by kernel_rfl) (by kernel_rfl) (fun _ _ _ h => h) (Or.inl ⟨by rfl, ?_⟩) hHeld ?_
    rotate_left
    · (intro wx hSx; obtain ⟨⟨⟨t0, t1, t2⟩, ⟨a0, a1, a2, a3, a4, a5, a6, a7, a8, a9, a10, a11⟩⟩, _⟩ : (_ ∧ _) ∧ True := ⟨⟨hSx.1.1, hSx.2.cells⟩, trivial⟩; go_simp; (try with_reducible rfl))
    (try simp only [Act.put, List.getElem_toArray, List.getElem_cons_succ, List.getElem_cons_zero, List.setIfInBounds_toArray, List.set_cons_succ, List.set_cons_zero])
    refine wpAnyH_take (i := 3) (v := ?_) rfl (by kernel_rfl) (by kernel_rfl) (by kernel_rfl) (fun _ _ _ h => h) (Or.inl ⟨by rfl, ?_⟩) hHeld ?_
    rotate_left
    · (intro wx hSx; obtain ⟨⟨⟨t0, t1, t2⟩, ⟨a0, a1, a2, a3, a4, a5, a6, a7, a8, a9, a10, a11⟩⟩, _⟩ : (_ ∧ _) ∧ True := ⟨⟨hSx.1.1, hSx.2.cells⟩, trivial⟩; go_simp; (try with_reducible rfl))
    (try simp only [Act.put, List.getElem_toArray, List.getElem_cons_succ, List.getElem_cons_zero, List.setIfInBounds_toArray, List.set_cons_succ, List.set_cons_zero])
    refine wpAnyH_take (i := 4) (v := ?_) rfl (by kernel_rfl) (by kernel_rfl) (by kernel_rfl) (fun _ _ _ h => h) (Or.inl ⟨by rfl, ?_⟩) hHeld ?_
    rotate_left
    · (intro wx hSx; obtain ⟨⟨⟨t0, t1, t2⟩, ⟨a0, a1, a2, a3, a4, a5, a6, a7, a8, a9, a10, a11⟩⟩, _⟩ : (_ ∧ _) ∧ True := ⟨⟨hSx.1.1, hSx.2.cells⟩, trivial⟩; go_simp; (try with_reducible rfl))
    (try simp only [Act.put, List.getElem_toArray, List.getElem_cons_succ, List.getElem_cons_zero, List.setIfInBounds_toArray, List.set_cons_succ, List.set_cons_zero])
    refine wpAnyH_ready (rs := [5]) (by kernel_rfl) (by simp) ?_
    refine AllReadyH.cons rfl (fun K hK => ?_) AllReadyH.nil
    rw [if_pos (by rfl)]
    go_simp
    refine (HG.out _ HH.out).mono ?_
    rintro e w1 ⟨rfl, hb1⟩
    have HH := Lib.hid (HH.out.next hb1)
    (try simp only [])
    refine hK.out _ _ HH.out (fun hHeld => ?_)
    clear hb1
    clear hK K
    (try simp only [Act.put, List.getElem_toArray, List.getElem_cons_succ, List.getElem_cons_zero, List.setIfInBounds_toArray, List.set_cons_succ, List.set_cons_zero])
    refine wpAnyH_take (i := 6) (v := ?_) rfl (by kernel_rfl) (by kernel_rfl) (by kernel_rfl) (fun _ _ _ h => h) (Or.inl ⟨by rfl, ?_⟩) hHeld ?_
    rotate_left
    · (intro wx hSx; obtain ⟨⟨⟨t0, t1, t2⟩, ⟨a0, a1, a2, a3, a4, a5, a6, a7, a8, a9, a10, a11⟩⟩, _⟩ : (_ ∧ _) ∧ True := ⟨⟨hSx.1.1, hSx.2.cells⟩, trivial⟩; go_simp; (try with_reducible rfl))
    (try simp only [Act.put, List.getElem_toArray, List.getElem_cons_succ, List.getElem_cons_zero, List.setIfInBounds_toArray, List.set_cons_succ, List.set_cons_zero])
    refine wpAnyH_take (i := 7) (v := ?_) rfl (by kernel_rfl) (by kernel_rfl) (by kernel_rfl) (fun _ _ _ h => h) (Or.inl ⟨by rfl, ?_⟩) hHeld ?_
    rotate_left
    · (intro wx hSx; obtain ⟨⟨⟨t0, t1, t2⟩, ⟨a0, a1, a2, a3, a4, a5, a6, a7, a8, a9, a10, a11⟩⟩, _⟩ : (_ ∧ _) ∧ True := ⟨⟨hSx.1.1, hSx.2.cells⟩, trivial⟩; go_simp; (try with_reducible rfl))
    (try simp only [Act.put, List.getElem_toArray, List.getElem_cons_succ, List.getElem_cons_zero, List.setIfInBounds_toArray, List.set_cons_succ, List.set_cons_zero])
    refine wpAnyH_take (i := 8) (v := ?_) rfl (by kernel_rfl) (by kernel_rfl) (by kernel_rfl) (fun _ _ _ h => h) (Or.inl ⟨by rfl, ?_⟩) hHeld ?_
    rotate_left
    · (intro wx hSx; obtain ⟨⟨⟨t0, t1, t2⟩, ⟨a0, a1, a2, a3, a4, a5, a6, a7, a8, a9, a10, a11⟩⟩, _⟩ : (_ ∧ _) ∧ True := ⟨⟨hSx.1.1, hSx.2.cells⟩, trivial⟩; go_simp; (try with_reducible rfl))
    (try simp only [Act.put, List.getElem_toArray, List.getElem_cons_succ, List.getElem_cons_zero, List.setIfInBounds_toArray, List.set_cons_succ, List.set_cons_zero])
    refine wpAnyH_take (i := 9) (v := ?_) rfl (by kernel_rfl) (by kernel_rfl) (by kernel_rfl) (fun _ _ _ h => h) (Or.inl ⟨by rfl, ?_⟩) hHeld ?_
    rotate_left
    · (intro wx hSx; obtain ⟨⟨⟨t0, t1, t2⟩, ⟨a0, a1, a2, a3, a4, a5, a6, a7, a8, a9, a10, a11⟩⟩, _⟩ : (_ ∧ _) ∧ True := ⟨⟨hSx.1.1, hSx.2.cells⟩, trivial⟩; go_simp; (try with_reducible rfl))
    (try simp only [Act.put, List.getElem_toArray, List.getElem_cons_succ, List.getElem_cons_zero, List.setIfInBounds_toArray, List.set_cons_succ, List.set_cons_zero])
    refine wpAnyH_take (i := 11) (v := ?_) rfl (by kernel_rfl) (by kernel_rfl) (by kernel_rfl) (fun _ _ _ h => h) (Or.inl ⟨by rfl, ?_⟩) hHeld ?_
    rotate_left
    · (intro wx hSx; obtain ⟨⟨⟨t0, t1, t2⟩, ⟨a0, a1, a2, a3, a4, a5, a6, a7, a8, a9, a10, a11⟩⟩, _⟩ : (_ ∧ _) ∧ True := ⟨⟨hSx.1.1, hSx.2.cells⟩, trivial⟩; go_simp; (try with_reducible rfl))
    (try simp only [Act.put, List.getElem_toArray, List.getElem_cons_succ, List.getElem_cons_zero, List.setIfInBounds_toArray, List.set_cons_succ, List.set_cons_zero])
    refine wpAnyH_take (i := 12) (v := ?_) rfl (by kernel_rfl) (by kernel_rfl) (by kernel_rfl) (fun _ _ _ h => h) (Or.inl ⟨by rfl, ?_⟩) hHeld ?_
    rotate_left
    · (intro wx hSx; obtain ⟨⟨⟨t0, t1, t2⟩, ⟨a0, a1, a2, a3, a4, a5, a6, a7, a8, a9, a10, a11⟩⟩, _⟩ : (_ ∧ _) ∧ True := ⟨⟨hSx.1.1, hSx.2.cells⟩, trivial⟩; go_simp; (try with_reducible rfl))
    (try simp only [Act.put, List.getElem_toArray, List.getElem_cons_succ, List.getElem_cons_zero, List.setIfInBounds_toArray, List.set_cons_succ, List.set_cons_zero])
    refine wpAnyH_take (i := 13) (v := ?_) rfl (by kernel_rfl) (by kernel_rfl) (by kernel_rfl) (fun _ _ _ h => h) (Or.inl ⟨by rfl, ?_⟩) hHeld ?_
    rotate_left
    · (intro wx hSx; obtain ⟨⟨⟨t0, t1, t2⟩, ⟨a0, a1, a2, a3, a4, a5, a6, a7, a8, a9, a10, a11⟩⟩, _⟩ : (_ ∧ _) ∧ True := ⟨⟨hSx.1.1, hSx.2.cells⟩, trivial⟩; go_simp; (try with_reducible rfl))
    (try simp only [Act.put, List.getElem_toArray, List.getElem_cons_succ, List.getElem_cons_zero, List.setIfInBounds_toArray, List.set_cons_succ, List.set_cons_zero])
    refine wpAnyH_take (i := 16) (v := ?_) rfl (by kernel_rfl) (by kernel_rfl) (by kernel_rfl) (fun _ _ _ h => h) (Or.inl ⟨by rfl, ?_⟩) hHeld ?_
    rotate_left
    · (intro wx hSx; obtain ⟨⟨⟨t0, t1, t2⟩, ⟨a0, a1, a2, a3, a4, a5, a6, a7, a8, a9, a10, a11⟩⟩, _⟩ : (_ ∧ _) ∧ True := ⟨⟨hSx.1.1, hSx.2.cells⟩, trivial⟩; go_simp; (try with_reducible rfl))
    (try simp only [Act.put, List.getElem_toArray, List.getElem_cons_succ, List.getElem_cons_zero, List.setIfInBounds_toArray, List.set_cons_succ, List.set_cons_zero])
    refine wpAnyH_take (i := 17) (v := ?_) rfl (by kernel_rfl) (by kernel_rfl) (by kernel_rfl) (fun _ _ _ h => h) (Or.inl ⟨by rfl, ?_⟩) hHeld ?_
    rotate_left
    · (intro wx hSx; obtain ⟨⟨⟨t0, t1, t2⟩, ⟨a0, a1, a2, a3, a4, a5, a6, a7, a8, a9, a10, a11⟩⟩, _⟩ : (_ ∧ _) ∧ True := ⟨⟨hSx.1.1, hSx.2.cells⟩, trivial⟩; go_simp; (try with_reducible rfl))
    (try simp only [Act.put, List.getElem_toArray, List.getElem_cons_succ, List.getElem_cons_zero, List.setIfInBounds_toArray, List.set_cons_succ, List.set_cons_zero])
    refine wpAnyH_ready (rs := [10]) (by kernel_rfl) (by simp) ?_
    refine AllReadyH.cons rfl (fun K hK => ?_) AllReadyH.nil
    rw [if_pos (by rfl)]
    go_simp
    refine (HE1.out _ HH.out).mono ?_
    rintro e w1 ⟨rfl, hb1⟩
    have HH := Lib.hid (HH.out.next hb1)
    (try simp only [])
    refine hK.out _ _ HH.out (fun hHeld => ?_)
    clear hb1
    clear hK K
    (try simp only [Act.put, List.getElem_toArray, List.getElem_cons_succ, List.getElem_cons_zero, List.setIfInBounds_toArray, List.set_cons_succ, List.set_cons_zero])
    refine wpAnyH_ready (rs := [14]) (by kernel_rfl) (by simp) ?_
    refine AllReadyH.cons rfl (fun K hK => ?_) AllReadyH.nil
    rw [if_pos (by rfl)]
    go_simp
    refine (HE2.out _ HH.out).mono ?_
    rintro e w1 ⟨rfl, hb1⟩
    have HH := Lib.hid (HH.out.next hb1)
    (try simp only [])
    refine hK.out _ _ HH.out (fun hHeld => ?_)
    clear hb1
    clear hK K
    (try simp only [Act.put, List.getElem_toArray, List.getElem_cons_succ, List.getElem_cons_zero, List.setIfInBounds_toArray, List.set_cons_succ, List.set_cons_zero])
    refine wpAnyH_take (i := 15) (v := ?_) rfl (by kernel_rfl) (by kernel_rfl) (by kernel_rfl) (fun _ _ _ h => h) (Or.inl ⟨by rfl, ?_⟩) hHeld ?_
    rotate_left
    · (intro wx hSx; obtain ⟨⟨⟨t0, t1, t2⟩, ⟨a0, a1, a2, a3, a4, a5, a6, a7, a8, a9, a10, a11⟩⟩, _⟩ : (_ ∧ _) ∧ True := ⟨⟨hSx.1.1, hSx.2.cells⟩, trivial⟩; go_simp; (try with_reducible rfl))
    (try simp only [Act.put, List.getElem_toArray, List.getElem_cons_succ, List.getElem_cons_zero, List.setIfInBounds_toArray, List.set_cons_succ, List.set_cons_zero])
    refine wpAnyH_take (i := 18) (v := ?_) rfl (by kernel_rfl) (by kernel_rfl) (by kernel_rfl) (fun _ _ _ h => h) (Or.inl ⟨by rfl, ?_⟩) hHeld ?_
    rotate_left
    · (intro wx hSx; obtain ⟨⟨⟨t0, t1, t2⟩, ⟨a0, a1, a2, a3, a4, a5, a6, a7, a8, a9, a10, a11⟩⟩, _⟩ : (_ ∧ _) ∧ True := ⟨⟨hSx.1.1, hSx.2.cells⟩, trivial⟩; go_simp; (try with_reducible rfl))
    (try simp only [Act.put, List.getElem_toArray, List.getElem_cons_succ, List.getElem_cons_zero, List.setIfInBounds_toArray, List.set_cons_succ, List.set_cons_zero])
    refine wpAnyH_take (i := 19) (v := ?_) rfl (by kernel_rfl) (by kernel_rfl) (by kernel_rfl) (fun _ _ _ h => h) (Or.inl ⟨by rfl, ?_⟩) hHeld ?_
    rotate_left
    · (intro wx hSx; obtain ⟨⟨⟨t0, t1, t2⟩, ⟨a0, a1, a2, a3, a4, a5, a6, a7, a8, a9, a10, a11⟩⟩, _⟩ : (_ ∧ _) ∧ True := ⟨⟨hSx.1.1, hSx.2.cells⟩, trivial⟩; go_simp; (try with_reducible rfl))
    (try simp only [Act.put, List.getElem_toArray, List.getElem_cons_succ, List.getElem_cons_zero, List.setIfInBounds_toArray, List.set_cons_succ, List.set_cons_zero])
    refine wpAnyH_take (i := 20) (v := ?_) rfl (by kernel_rfl) (by kernel_rfl) (by kernel_rfl) (fun _ _ _ h => h) (Or.inl ⟨by rfl, ?_⟩) hHeld ?_
    rotate_left
    · (intro wx hSx; obtain ⟨⟨⟨t0, t1, t2⟩, ⟨a0, a1, a2, a3, a4, a5, a6, a7, a8, a9, a10, a11⟩⟩, _⟩ : (_ ∧ _) ∧ True := ⟨⟨hSx.1.1, hSx.2.cells⟩, trivial⟩; go_simp; (try with_reducible rfl))
    (try simp only [Act.put, List.getElem_toArray, List.getElem_cons_succ, List.getElem_cons_zero, List.setIfInBounds_toArray, List.set_cons_succ, List.set_cons_zero])
    refine wpAnyH_done (by kernel_rfl) ?_ _
    clear hHeld
    rw [HMX.out]
    go_wp2
    go_ret
    exact ⟨rfl, HH.out.1.2.2⟩
  · skip
    have d5 : (s.rn.base == g0) = false := by simpa using h5
    have HV : Hid (decide (agrS s) = false) := Lib.hid (decide_eq_false fun k => h5 (HAG.out.1 k).1)
    clear h5 HAG
    rw [HV.out]
    go_enter Try.func79, Try.ntmps79
    go_upto_region 1 with fail
    generalize (w.alloc (.cells #[.slice A2 s.pe.length c2, .slice A3 s.fl.length c3, .slice A4 s.ac.length c4] 70)).alloc (.cells (snB s v1 (.slice A2 s.pe.length c2) (.slice A3 s.fl.length c3) (.slice A4 s.ac.length c4)) 35) = w2 at *
    have HH := Lib.hid HH.out.drew
    refine wp_region_held_drew (S := (InTS w s v1 (.slice A2 s.pe.length c2) (.slice A3 s.fl.length c3) (.slice A4 s.ac.length c4))) (by kernel_rfl) HH.out (fun hHeld => ?_)
    refine wpAnyH_take (i := 0) (v := ?_) rfl (by kernel_rfl) (by kernel_rfl) (by kernel_rfl) (fun _ _ _ h => h) (Or.inl ⟨by rfl, ?_⟩) hHeld ?_
    rotate_left
    · (intro wx hSx; obtain ⟨⟨⟨t0, t1, t2⟩, ⟨a0, a1, a2, a3, a4, a5, a6, a7, a8, a9, a10, a11⟩⟩, _⟩ : (_ ∧ _) ∧ True := ⟨⟨hSx.1.1, hSx.2.cells⟩, trivial⟩; go_simp; (try with_reducible rfl))
    (try simp only [Act.put, List.getElem_toArray, List.getElem_cons_zero, List.setIfInBounds_toArray, List.set_cons_succ, List.set_cons_zero])
    refine wpAnyH_take (i := 1) (v := ?_) rfl (by kernel_rfl) (by kernel_rfl) (by kernel_rfl) (fun _ _ _ h => h) (Or.inl ⟨by rfl, ?_⟩) hHeld ?_
    rotate_left
    · (intro wx hSx; obtain ⟨⟨⟨t0, t1, t2⟩, ⟨a0, a1, a2, a3, a4, a5, a6, a7, a8, a9, a10, a11⟩⟩, _⟩ : (_ ∧ _) ∧ True := ⟨⟨hSx.1.1, hSx.2.cells⟩, trivial⟩; go_simp; (try with_reducible rfl))
    (try simp only [Act.put, List.getElem_toArray, List.getElem_cons_succ, List.getElem_cons_zero, List.setIfInBounds_toArray, List.set_cons_succ, List.set_cons_zero])
    refine wpAnyH_take (i := 2) (v := ?_) rfl (by kernel_rfl) (by kernel_rfl) (by kernel_rfl) (fun _ _ _ h => h) (Or.inl ⟨by rfl, ?_⟩) hHeld ?_
    rotate_left
    · (intro wx hSx; obtain ⟨⟨⟨t0, t1, t2⟩, ⟨a0, a1, a2, a3, a4, a5, a6, a7, a8, a9, a10, a11⟩⟩, _⟩ : (_ ∧ _) ∧ True := ⟨⟨hSx.1.1, hSx.2.cells⟩, trivial⟩; go_simp; (try with_reducible rfl))
    (try simp only [Act.put, List.getElem_toArray, List.getElem_cons_succ, List.getElem_cons_zero, List.setIfInBounds_toArray, List.set_cons_succ, List.set_cons_zero])
    refine wpAnyH_take (i := 3) (v := ?_) rfl (by kernel_rfl) (by kernel_rfl) (by kernel_rfl) (fun _ _ _ h => h) (Or.inl ⟨by rfl, ?_⟩) hHeld ?_
    rotate_left
    · (intro wx hSx; obtain ⟨⟨⟨t0, t1, t2⟩, ⟨a0, a1, a2, a3, a4, a5, a6, a7, a8, a9, a10, a11⟩⟩, _⟩ : (_ ∧ _) ∧ True := ⟨⟨hSx.1.1, hSx.2.cells⟩, trivial⟩; go_simp; (try with_reducible rfl))
    (try simp only [Act.put, List.getElem_toArray, List.getElem_cons_succ, List.getElem_cons_zero, List.setIfInBounds_toArray, List.set_cons_succ, List.set_cons_zero])
    refine wpAnyH_take (i := 4) (v := ?_) rfl (by kernel_rfl) (by kernel_rfl) (by kernel_rfl) (fun _ _ _ h => h) (Or.inl ⟨by rfl, ?_⟩) hHeld ?_
    rotate_left
    · (intro wx hSx; obtain ⟨⟨⟨t0, t1, t2⟩, ⟨a0, a1, a2, a3, a4, a5, a6, a7, a8, a9, a10, a11⟩⟩, _⟩ : (_ ∧ _) ∧ True := ⟨⟨hSx.1.1, hSx.2.cells⟩, trivial⟩; go_simp; (try with_reducible rfl))
    (try simp only [Act.put, List.getElem_toArray, List.getElem_cons_succ, List.getElem_cons_zero, List.setIfInBounds_toArray, List.set_cons_succ, List.set_cons_zero])
    refine wpAnyH_ready (rs := [5]) (by kernel_rfl) (by simp) ?_
    refine AllReadyH.cons rfl (fun K hK => ?_) AllReadyH.nil
    rw [if_pos (by rfl)]
    go_simp
    refine (HG.out _ HH.out).mono ?_
    rintro e w1 ⟨rfl, hb1⟩
    have HH := Lib.hid (HH.out.next hb1)
    (try simp only [])
    refine hK.out _ _ HH.out (fun hHeld => ?_)
    clear hb1
    clear hK K
    (try simp only [Act.put, List.getElem_toArray, List.getElem_cons_succ, List.getElem_cons_zero, List.setIfInBounds_toArray, List.set_cons_succ, List.set_cons_zero])
    refine wpAnyH_take (i := 6) (v := ?_) rfl (by kernel_rfl) (by kernel_rfl) (by kernel_rfl) (fun _ _ _ h => h) (Or.inl ⟨by rfl, ?_⟩) hHeld ?_
    rotate_left
    · (intro wx hSx; obtain ⟨⟨⟨t0, t1, t2⟩, ⟨a0, a1, a2, a3, a4, a5, a6, a7, a8, a9, a10, a11⟩⟩, _⟩ : (_ ∧ _) ∧ True := ⟨⟨hSx.1.1, hSx.2.cells⟩, trivial⟩; go_simp; (try with_reducible rfl))
    (try simp only [Act.put, List.getElem_toArray, List.getElem_cons_succ, List.getElem_cons_zero, List.setIfInBounds_toArray, List.set_cons_succ, List.set_cons_zero])
    refine wpAnyH_take (i := 7) (v := ?_) rfl (by kernel_rfl) (by kernel_rfl) (by kernel_rfl) (fun _ _ _ h => h) (Or.inl ⟨by rfl, ?_⟩) hHeld ?_
    rotate_left
    · (intro wx hSx; obtain ⟨⟨⟨t0, t1, t2⟩, ⟨a0, a1, a2, a3, a4, a5, a6, a7, a8, a9, a10, a11⟩⟩, _⟩ : (_ ∧ _) ∧ True := ⟨⟨hSx.1.1, hSx.2.cells⟩, trivial⟩; go_simp; (try with_reducible rfl))
    (try simp only [Act.put, List.getElem_toArray, List.getElem_cons_succ, List.getElem_cons_zero, List.setIfInBounds_toArray, List.set_cons_succ, List.set_cons_zero])
    refine wpAnyH_take (i := 8) (v := undef) rfl (by kernel_rfl) (by kernel_rfl) (by kernel_rfl) (fun _ _ _ h => h) (Or.inr ⟨by rfl, rfl⟩) hHeld ?_
    (try simp only [Act.put, List.getElem_toArray, List.getElem_cons_succ, List.getElem_cons_zero, List.setIfInBounds_toArray, List.set_cons_succ, List.set_cons_zero])
    refine wpAnyH_take (i := 9) (v := undef) rfl (by kernel_rfl) (by kernel_rfl) (by kernel_rfl) (fun _ _ _ h => h) (Or.inr ⟨by rfl, rfl⟩) hHeld ?_
    (try simp only [Act.put, List.getElem_toArray, List.getElem_cons_succ, List.getElem_cons_zero, List.setIfInBounds_toArray, List.set_cons_succ, List.set_cons_zero])
    refine wpAnyH_take (i := 10) (v := undef) rfl (by kernel_rfl) (by kernel_rfl) (by kernel_rfl) (fun _ _ _ h => h) (Or.inr ⟨by rfl, rfl⟩) hHeld ?_
    (try simp only [Act.put, List.getElem_toArray, List.getElem_cons_succ, List.getElem_cons_zero, List.setIfInBounds_toArray, List.set_cons_succ, List.set_cons_zero])
    refine wpAnyH_take (i := 11) (v := undef) rfl (by kernel_rfl) (by kernel_rfl) (by kernel_rfl) (fun _ _ _ h => h) (Or.inr ⟨by rfl, rfl⟩) hHeld ?_
    (try simp only [Act.put, List.getElem_toArray, List.getElem_cons_succ, List.getElem_cons_zero, List.setIfInBounds_toArray, List.set_cons_succ, List.set_cons_zero])
    refine wpAnyH_take (i := 12) (v := undef) rfl (by kernel_rfl) (by kernel_rfl) (by kernel_rfl) (fun _ _ _ h => h) (Or.inr ⟨by rfl, rfl⟩) hHeld ?_
    (try simp only [Act.put, List.getElem_toArray, List.getElem_cons_succ, List.getElem_cons_zero, List.setIfInBounds_toArray, List.set_cons_succ, List.set_cons_zero])
    refine wpAnyH_take (i := 13) (v := undef) rfl (by kernel_rfl) (by kernel_rfl) (by kernel_rfl) (fun _ _ _ h => h) (Or.inr ⟨by rfl, rfl⟩) hHeld ?_
    (try simp only [Act.put, List.getElem_toArray, List.getElem_cons_succ, List.getElem_cons_zero, List.setIfInBounds_toArray, List.set_cons_succ, List.set_cons_zero])
    refine wpAnyH_take (i := 14) (v := undef) rfl (by kernel_rfl) (by kernel_rfl) (by kernel_rfl) (fun _ _ _ h => h) (Or.inr ⟨by rfl, rfl⟩) hHeld ?_
    (try simp only [Act.put, List.getElem_toArray, List.getElem_cons_succ, List.getElem_cons_zero, List.setIfInBounds_toArray, List.set_cons_succ, List.set_cons_zero])
    refine wpAnyH_take (i := 15) (v := undef) rfl (by kernel_rfl) (by kernel_rfl) (by kernel_rfl) (fun _ _ _ h => h) (Or.inr ⟨by rfl, rfl⟩) hHeld ?_
    (try simp only [Act.put, List.getElem_toArray, List.getElem_cons_succ, List.getElem_cons_zero, List.setIfInBounds_toArray, List.set_cons_succ, List.set_cons_zero])
    refine wpAnyH_take (i := 16) (v := undef) rfl (by kernel_rfl) (by kernel_rfl) (by kernel_rfl) (fun _ _ _ h => h) (Or.inr ⟨by rfl, rfl⟩) hHeld ?_
    (try simp only [Act.put, List.getElem_toArray, List.getElem_cons_succ, List.getElem_cons_zero, List.setIfInBounds_toArray, List.set_cons_succ, List.set_cons_zero])
    refine wpAnyH_take (i := 17) (v := undef) rfl (by kernel_rfl) (by kernel_rfl) (by kernel_rfl) (fun _ _ _ h => h) (Or.inr ⟨by rfl, rfl⟩) hHeld ?_
    (try simp only [Act.put, List.getElem_toArray, List.getElem_cons_succ, List.getElem_cons_zero, List.setIfInBounds_toArray, List.set_cons_succ, List.set_cons_zero])
    refine wpAnyH_take (i := 18) (v := undef) rfl (by kernel_rfl) (by kernel_rfl) (by kernel_rfl) (fun _ _ _ h => h) (Or.inr ⟨by rfl, rfl⟩) hHeld ?_
    (try simp only [Act.put, List.getElem_toArray, List.getElem_cons_succ, List.getElem_cons_zero, List.setIfInBounds_toArray, List.set_cons_succ, List.set_cons_zero])
    refine wpAnyH_take (i := 19) (v := ?_) rfl (by kernel_rfl) (by kernel_rfl) (by kernel_rfl) (fun _ _ _ h => h) (Or.inl ⟨by rfl, ?_⟩) hHeld ?_
    rotate_left
    · (intro wx hSx; obtain ⟨⟨⟨t0, t1, t2⟩, ⟨a0, a1, a2, a3, a4, a5, a6, a7, a8, a9, a10, a11⟩⟩, _⟩ : (_ ∧ _) ∧ True := ⟨⟨hSx.1.1, hSx.2.cells⟩, trivial⟩; go_simp; (try with_reducible rfl))
    (try simp only [Act.put, List.getElem_toArray, List.getElem_cons_succ, List.getElem_cons_zero, List.setIfInBounds_toArray, List.set_cons_succ, List.set_cons_zero])
    refine wpAnyH_take (i := 20) (v := ?_) rfl (by kernel_rfl) (by kernel_rfl) (by kernel_rfl) (fun _ _ _ h => h) (Or.inl ⟨by rfl, ?_⟩) hHeld ?_
    rotate_left
    · (intro wx hSx; obtain ⟨⟨⟨t0, t1, t2⟩, ⟨a0, a1, a2, a3, a4, a5, a6, a7, a8, a9, a10, a11⟩⟩, _⟩ : (_ ∧ _) ∧ True := ⟨⟨hSx.1.1, hSx.2.cells⟩, trivial⟩; go_simp; (try with_reducible rfl))
    (try simp only [Act.put, List.getElem_toArray, List.getElem_cons_succ, List.getElem_cons_zero, List.setIfInBounds_toArray, List.set_cons_succ, List.set_cons_zero])
    refine wpAnyH_done (by kernel_rfl) ?_ _
    clear hHeld
    go_wp2
    go_ret
    exact ⟨rfl, HH.out.1.2.2⟩
end Go.Proofs.Ytjohbfdifdjldac

namespace Go.Proofs.Ytjohbfdifdjldac
open Go.RowKit Go.Deep Go.Proofs.Ytjohbfdifdjldac.Num

/-- A sender, boxed. -/
def InB (w : World) (s : Sn) (v1 v2 v3 v4 : Value) (W : World) : Prop := RowS W w.heap.size s v1 v2 v3 v4 ∧ Below w.heap.size w W
theorem InB.start (w : World) (s : Sn) (v1 v2 v3 v4 : Value) : InB w s v1 v2 v3 v4 (w.alloc (.cells (snB s v1 v2 v3 v4) 35)) := ⟨RowS.new w s v1 v2 v3 v4, (Below.refl _ _).alloc (Nat.le_refl _) _⟩
theorem InB.next {w : World} {s : Sn} {v1 v2 v3 v4 : Value} {W W' : World} (h : InB w s v1 v2 v3 v4 W) (hb : Below W.heap.size W W') : InB w s v1 v2 v3 v4 W' := ⟨h.1.below hb h.1.lt, h.2.trans (hb.mono (Nat.le_of_lt h.1.lt))⟩
theorem InB.drew {w : World} {s : Sn} {v1 v2 v3 v4 : Value} {W : World} (h : InB w s v1 v2 v3 v4 W) : InB w s v1 v2 v3 v4 W.drew := h.next (Below.refl _ _).drew
theorem set_start (w : World) (s : Sn) (v1 v2 v3 v4 : Value) :
    InB w s v1 v2 v3 v4 ((w.alloc (.cells (snB s v1 v2 v3 v4) 35)).alloc (.cells #[.slice none 0 0, .slice none 0 0, .slice none 0 0] 70)) ∧ ((w.alloc (.cells (snB s v1 v2 v3 v4) 35)).alloc (.cells #[.slice none 0 0, .slice none 0 0, .slice none 0 0] 70)).heap[w.heap.size + 1]? = some (.cells #[.slice none 0 0, .slice none 0 0, .slice none 0 0] 70 (0, 0)) := by
  have h1 : ∀ o1, (w.alloc o1).heap.size = w.heap.size + 1 := fun _ => by simp
  refine ⟨(InB.start w s v1 v2 v3 v4).next ((Below.refl _ _).alloc (Nat.le_refl _) _), ?_⟩
  have h := heap_alloc_new (w.alloc (.cells (snB s v1 v2 v3 v4) 35)) (.cells #[.slice none 0 0, .slice none 0 0, .slice none 0 0] 70)
  rw [h1] at h
  exact h
theorem row3_put {W : World} {g : Nat} {t : TypeId} {a b c : Value} (x : W.heap[g]? = some (.cells #[a, b, c] t (0, 0))) (v2 v3 v4 : Value) :
    (((W.setCell ⟨g, 0, none⟩ v2).setCell ⟨g, 1, none⟩ v3).setCell ⟨g, 2, none⟩ v4).heap[g]? = some (.cells #[v2, v3, v4] t (0, 0)) := by
  have h := row_put (row_put (row_put x 0 v2) 1 v3) 2 v4
  simpa using h
set_option maxRecDepth 100000 in
set_option maxHeartbeats 1000000 in
/-- impl.setsOf -/
theorem isetsof (s : Sn) (v1 : Value) (A2 A3 A4 : Option Addr) (n2 c2 n3 c3 n4 c4 : Nat) (w : World) :
    Calls Try.prog 36 #[snV s v1 (.slice A2 n2 c2) (.slice A3 n3 c3) (.slice A4 n4 c4)] w fun e w' => e = .returned (.agg #[.slice A2 n2 c2, .slice A3 n3 c3, .slice A4 n4 c4]) ∧ Below w.heap.size w w' := by
  have HS := Lib.hid (set_start w s v1 (.slice A2 n2 c2) (.slice A3 n3 c3) (.slice A4 n4 c4))
  go_enter Try.func36, Try.ntmps36
  go_upto_region 1 with fail
  generalize (w.alloc (.cells (snB s v1 (.slice A2 n2 c2) (.slice A3 n3 c3) (.slice A4 n4 c4)) 35)).alloc (.cells #[.slice none 0 0, .slice none 0 0, .slice none 0 0] 70) = w2 at *
  obtain ⟨a0, a1, a2, a3, a4, a5, a6, a7, a8, a9, a10, a11⟩ := HS.out.1.1.cells
  have q0 := cell_of_row w2 (w.heap.size + 1) 0 _ _ _ HS.out.2
  have q1 := cell_of_row w2 (w.heap.size + 1) 1 _ _ _ HS.out.2
  have q2 := cell_of_row w2 (w.heap.size + 1) 2 _ _ _ HS.out.2
  have qf : ∀ k, w2.frozen? ⟨w.heap.size + 1, k, none⟩ = false := fun k => by simp [World.frozen?, HS.out.2]
  go_wp2
  refine bodyPost_ret (results_cell_row rfl _ _ (w.heap.size + 1) _ _ _ _ rfl (row3_put HS.out.2 (.slice A2 n2 c2) (.slice A3 n3 c3) (.slice A4 n4 c4)) Try.underlying70 rfl (by kernel_rfl)) rfl ?_
  exact ⟨rfl, ((HS.out.1.2.setCell (p := ⟨w.heap.size + 1, 0, none⟩) (Nat.le_succ _) _).setCell (p := ⟨w.heap.size + 1, 1, none⟩) (Nat.le_succ _) _).setCell (p := ⟨w.heap.size + 1, 2, none⟩) (Nat.le_succ _) _⟩
end Go.Proofs.Ytjohbfdifdjldac

namespace Go.Proofs.Ytjohbfdifdjldac
open Go.RowKit Go.Deep Go.Proofs.Ytjohbfdifdjldac.Num

set_option maxRecDepth 100000 in
set_option maxHeartbeats 2000000 in
/-- impl.stateThatFollows -/
theorem istate (s : Sn) (v1 v2 v3 v4 : Value) (w : World) (hfi : 0 ≤ s.fi ∧ s.fi ≤ 3) :
    Calls Try.prog 69 #[snV s v1 v2 v3 v4] w fun e w' => e = .returned (.int .i64 (folS s)) ∧ Below w.heap.size w w' := by
  have HH := Lib.hid (InB.start w s v1 v2 v3 v4)
  by_cases h1 : s.fi = 3
  · skip
    by_cases h2 : s.rn.base = s.rn.en
    · skip
      have HV : Hid (folS s = 3) := Lib.hid (by unfold folS; (repeat' split) <;> omega)
      have t1 : (s.fi == 3) = true := by simpa using h1
      have t2 : (s.rn.base == s.rn.en) = true := by simpa using h2
      clear hfi h1 h2
      go_enter Try.func69, Try.ntmps69
      obtain ⟨a0, a1, a2, a3, a4, a5, a6, a7, a8, a9, a10, a11⟩ := HH.out.1.cells
      go_wp2
      go_ret
      exact ⟨by rw [HV.out]; rfl, HH.out.2⟩
    · skip
      have HV : Hid (folS s = 2) := Lib.hid (by unfold folS; (repeat' split) <;> omega)
      have t1 : (s.fi == 3) = true := by simpa using h1
      have t2 : (s.rn.base == s.rn.en) = false := by simpa using h2
      clear hfi h1 h2
      go_enter Try.func69, Try.ntmps69
      obtain ⟨a0, a1, a2, a3, a4, a5, a6, a7, a8, a9, a10, a11⟩ := HH.out.1.cells
      go_wp2
      go_ret
      exact ⟨by rw [HV.out]; rfl, HH.out.2⟩
  · skip
    by_cases h3 : s.fi = 2
    · skip
      have HV : Hid (folS s = 2) := Lib.hid (by unfold folS; (repeat' split) <;> omega)
      have t1 : (s.fi == 3) = false := by simpa using h1
      have t3 : (s.fi == 2) = true := by simpa using h3
      clear hfi h1 h3
      go_enter Try.func69, Try.ntmps69
      obtain ⟨a0, a1, a2, a3, a4, a5, a6, a7, a8, a9, a10, a11⟩ := HH.out.1.cells
      go_wp2
      go_ret
      exact ⟨by rw [HV.out]; rfl, HH.out.2⟩
    · skip
      by_cases h4 : s.fi = 1
      · skip
        by_cases h5 : s.st = 2
        · skip
          have HV : Hid (folS s = 2) := Lib.hid (by unfold folS; (repeat' split) <;> omega)
          have t1 : (s.fi == 3) = false := by simpa using h1
          have t3 : (s.fi == 2) = false := by simpa using h3
          have t4 : (s.fi == 1) = true := by simpa using h4
          have t5 : (s.st == 2) = true := by simpa using h5
          clear hfi h1 h3 h4 h5
          go_enter Try.func69, Try.ntmps69
          obtain ⟨a0, a1, a2, a3, a4, a5, a6, a7, a8, a9, a10, a11⟩ := HH.out.1.cells
          go_wp2
          go_ret
          exact ⟨by rw [HV.out]; rfl, HH.out.2⟩
        · skip
          by_cases h6 : 0 < s.sent
          · skip
            have HV : Hid (folS s = 1) := Lib.hid (by unfold folS; (repeat' split) <;> omega)
            have t1 : (s.fi == 3) = false := by simpa using h1
            have t3 : (s.fi == 2) = false := by simpa using h3
            have t4 : (s.fi == 1) = true := by simpa using h4
            have t5 : (s.st == 2) = false := by simpa using h5
            have t6 : decide (0 < s.sent) = true := decide_eq_true h6
            clear hfi h1 h3 h4 h5 h6
            go_enter Try.func69, Try.ntmps69
            obtain ⟨a0, a1, a2, a3, a4, a5, a6, a7, a8, a9, a10, a11⟩ := HH.out.1.cells
            go_wp2
            go_ret
            exact ⟨by rw [HV.out]; rfl, HH.out.2⟩
          · skip
            by_cases h7 : s.st = 1
            · skip
              have HV : Hid (folS s = 1) := Lib.hid (by unfold folS; (repeat' split) <;> omega)
              have t1 : (s.fi == 3) = false := by simpa using h1
              have t3 : (s.fi == 2) = false := by simpa using h3
              have t4 : (s.fi == 1) = true := by simpa using h4
              have t5 : (s.st == 2) = false := by simpa using h5
              have t6 : decide (0 < s.sent) = false := decide_eq_false h6
              have t7 : (s.st == 1) = true := by simpa using h7
              clear hfi h1 h3 h4 h5 h6 h7
              go_enter Try.func69, Try.ntmps69
              obtain ⟨a0, a1, a2, a3, a4, a5, a6, a7, a8, a9, a10, a11⟩ := HH.out.1.cells
              go_wp2
              go_ret
              exact ⟨by rw [HV.out]; rfl, HH.out.2⟩
            · skip
              have HV : Hid (folS s = 0) := Lib.hid (by unfold folS; (repeat' split) <;> omega)
              have t1 : (s.fi == 3) = false := by simpa using h1
              have t3 : (s.fi == 2) = false := by simpa using h3
              have t4 : (s.fi == 1) = true := by simpa using h4
              have t5 : (s.st == 2) = false := by simpa using h5
              have t6 : decide (0 < s.sent) = false := decide_eq_false h6
              have t7 : (s.st == 1) = false := by simpa using h7
              clear hfi h1 h3 h4 h5 h6 h7
              go_enter Try.func69, Try.ntmps69
              obtain ⟨a0, a1, a2, a3, a4, a5, a6, a7, a8, a9, a10, a11⟩ := HH.out.1.cells
              go_wp2
              go_ret
              exact ⟨by rw [HV.out]; rfl, HH.out.2⟩
      · skip
        by_cases h6 : 0 < s.sent
        · skip
          have HV : Hid (folS s = 1) := Lib.hid (by unfold folS; (repeat' split) <;> omega)
          have t1 : (s.fi == 3) = false := by simpa using h1
          have t3 : (s.fi == 2) = false := by simpa using h3
          have t4 : (s.fi == 1) = false := by simpa using h4
          have t6 : decide (0 < s.sent) = true := decide_eq_true h6
          clear hfi h1 h3 h4 h6
          go_enter Try.func69, Try.ntmps69
          obtain ⟨a0, a1, a2, a3, a4, a5, a6, a7, a8, a9, a10, a11⟩ := HH.out.1.cells
          go_wp2
          go_ret
          exact ⟨by rw [HV.out]; rfl, HH.out.2⟩
        · skip
          have HV : Hid (folS s = 0) := Lib.hid (by unfold folS; (repeat' split) <;> omega)
          have t1 : (s.fi == 3) = false := by simpa using h1
          have t3 : (s.fi == 2) = false := by simpa using h3
          have t4 : (s.fi == 1) = false := by simpa using h4
          have t6 : decide (0 < s.sent) = false := decide_eq_false h6
          clear hfi h1 h3 h4 h6
          go_enter Try.func69, Try.ntmps69
          obtain ⟨a0, a1, a2, a3, a4, a5, a6, a7, a8, a9, a10, a11⟩ := HH.out.1.cells
          go_wp2
          go_ret
          exact ⟨by rw [HV.out]; rfl, HH.out.2⟩
set_option maxRecDepth 100000 in
set_option maxHeartbeats 1000000 in
/-- impl.hasGivenUp -/
theorem igiven (s : Sn) (v1 v2 v3 v4 : Value) (w : World) :
    Calls Try.prog 77 #[snV s v1 v2 v3 v4] w fun e w' => e = .returned (.bool (decide (s.rn.base = s.rn.en ∧ s.sent = s.rn.en ∧ s.fin = s.rn.en ∧ s.fi = 0))) ∧ Below w.heap.size w w' := by
  have HH := Lib.hid (InB.start w s v1 v2 v3 v4)
  by_cases h0 : s.rn.base = s.rn.en
  rotate_left
  · have HV := Lib.hid (decide_eq_false (p := s.rn.base = s.rn.en ∧ s.sent = s.rn.en ∧ s.fin = s.rn.en ∧ s.fi = 0) (fun k => h0 k.1))
    have t0 : (s.rn.base == s.rn.en) = false := by simpa using h0
    clear h0
    go_enter Try.func77, Try.ntmps77
    obtain ⟨a0, a1, a2, a3, a4, a5, a6, a7, a8, a9, a10, a11⟩ := HH.out.1.cells
    go_wp2
    go_ret
    exact ⟨by rw [HV.out]; rfl, HH.out.2⟩
  have t0 : (s.rn.base == s.rn.en) = true := by simpa using h0
  by_cases h1 : s.sent = s.rn.en
  rotate_left
  · have HV := Lib.hid (decide_eq_false (p := s.rn.base = s.rn.en ∧ s.sent = s.rn.en ∧ s.fin = s.rn.en ∧ s.fi = 0) (fun k => h1 k.2.1))
    have t1 : (s.sent == s.rn.en) = false := by simpa using h1
    clear h0 h1
    go_enter Try.func77, Try.ntmps77
    obtain ⟨a0, a1, a2, a3, a4, a5, a6, a7, a8, a9, a10, a11⟩ := HH.out.1.cells
    go_wp2
    go_ret
    exact ⟨by rw [HV.out]; rfl, HH.out.2⟩
  have t1 : (s.sent == s.rn.en) = true := by simpa using h1
  by_cases h2 : s.fin = s.rn.en
  rotate_left
  · have HV := Lib.hid (decide_eq_false (p := s.rn.base = s.rn.en ∧ s.sent = s.rn.en ∧ s.fin = s.rn.en ∧ s.fi = 0) (fun k => h2 k.2.2.1))
    have t2 : (s.fin == s.rn.en) = false := by simpa using h2
    clear h0 h1 h2
    go_enter Try.func77, Try.ntmps77
    obtain ⟨a0, a1, a2, a3, a4, a5, a6, a7, a8, a9, a10, a11⟩ := HH.out.1.cells
    go_wp2
    go_ret
    exact ⟨by rw [HV.out]; rfl, HH.out.2⟩
  have t2 : (s.fin == s.rn.en) = true := by simpa using h2
  by_cases h3 : s.fi = 0
  rotate_left
  · have HV := Lib.hid (decide_eq_false (p := s.rn.base = s.rn.en ∧ s.sent = s.rn.en ∧ s.fin = s.rn.en ∧ s.fi = 0) (fun k => h3 k.2.2.2))
    have t3 : (s.fi == 0) = false := by simpa using h3
    clear h0 h1 h2 h3
    go_enter Try.func77, Try.ntmps77
    obtain ⟨a0, a1, a2, a3, a4, a5, a6, a7, a8, a9, a10, a11⟩ := HH.out.1.cells
    go_wp2
    go_ret
    exact ⟨by rw [HV.out]; rfl, HH.out.2⟩
  have t3 : (s.fi == 0) = true := by simpa using h3
  have HV := Lib.hid (decide_eq_true (p := s.rn.base = s.rn.en ∧ s.sent = s.rn.en ∧ s.fin = s.rn.en ∧ s.fi = 0) ⟨h0, h1, h2, h3⟩)
  clear h0 h1 h2 h3
  go_enter Try.func77, Try.ntmps77
  obtain ⟨a0, a1, a2, a3, a4, a5, a6, a7, a8, a9, a10, a11⟩ := HH.out.1.cells
  go_wp2
  go_ret
  exact ⟨by rw [HV.out]; rfl, HH.out.2⟩
set_option maxRecDepth 100000 in
set_option maxHeartbeats 4000000 in
/-- impl.agreesWithFin -/
theorem iagf (s : Sn) (v1 v2 v3 v4 : Value) (w : World) (hfi : 0 ≤ s.fi ∧ s.fi ≤ 3) :
    Calls Try.prog 80 #[snV s v1 v2 v3 v4] w fun e w' => e = .returned (.bool (decide (afnS s))) ∧ Below w.heap.size w w' := by
  have HH := Lib.hid (InB.start w s v1 v2 v3 v4)
  have HST : Hid (∀ W, InB w s v1 v2 v3 v4 W → Calls Try.prog 69 #[snV s v1 v2 v3 v4] W fun e w' => e = .returned (.int .i64 (folS s)) ∧ Below W.heap.size W w') := Lib.hid fun W _ => istate s v1 v2 v3 v4 W hfi
  have HAF : Hid (afnS s ↔ s.fin = (if s.fi = 0 then -1 else s.rn.en) ∧ s.st = folS s) := Lib.hid Iff.rfl
  clear hfi
  generalize folS s = f0 at *
  by_cases h0 : s.fi = 0
  · have d0 : (s.fi == 0) = true := by simpa using h0
    rw [if_pos h0] at HAF
    clear h0
    by_cases h5 : s.fin = -1
    · have d5 : (s.fin == -1) = true := by simpa using h5
      have HV : Hid (decide (afnS s) = (s.st == f0)) := Lib.hid (by
        rw [show (s.st == f0) = decide (s.st = f0) from rfl]
        exact decide_eq_decide.2 (HAF.out.trans ⟨fun k => k.2, fun k => ⟨h5, k⟩⟩))
      rw [HV.out]
      clear h5 HAF HV
      go_enter Try.func80, Try.ntmps80
      obtain ⟨a0, a1, a2, a3, a4, a5, a6, a7, a8, a9, a10, a11⟩ := HH.out.1.cells
      go_upto_region 4 with fail
      have HH := Lib.hid HH.out.drew
      refine wp_region_held_drew (S := (InB w s v1 v2 v3 v4)) (by kernel_rfl) HH.out (fun hHeld => ?_)
      refine wpAnyH_take (i := 0) (v := ?_) rfl (by kernel_rfl) (by kernel_rfl) (by kernel_rfl) (fun _ _ _ h => h) (Or.inl ⟨by rfl, ?_⟩) hHeld ?_
      rotate_left
      · (intro wx hSx; obtain ⟨⟨a0, a1, a2, a3, a4, a5, a6, a7, a8, a9, a10, a11⟩, _⟩ : _ ∧ True := ⟨hSx.1.cells, trivial⟩; go_simp; (try with_reducible rfl))
      (try simp only [Act.put, List.getElem_toArray, List.getElem_cons_zero, List.setIfInBounds_toArray, List.set_cons_succ, List.set_cons_zero])
      refine wpAnyH_take (i := 1) (v := ?_) rfl (by kernel_rfl) (by kernel_rfl) (by kernel_rfl) (fun _ _ _ h => h) (Or.inl ⟨by rfl, ?_⟩) hHeld ?_
      rotate_left
      · (intro wx hSx; obtain ⟨⟨a0, a1, a2, a3, a4, a5, a6, a7, a8, a9, a10, a11⟩, _⟩ : _ ∧ True := ⟨hSx.1.cells, trivial⟩; go_simp; (try with_reducible rfl))
      (try simp only [Act.put, List.getElem_toArray, List.getElem_cons_succ, List.getElem_cons_zero, List.setIfInBounds_toArray, List.set_cons_succ, List.set_cons_zero])
      refine wpAnyH_take (i := 2) (v := ?_) rfl (by kernel_rfl) (by kernel_rfl) (by kernel_rfl) (fun _ _ _ h => h) (Or.inl ⟨by rfl, ?_⟩) hHeld ?_
      rotate_left
      · (intro wx hSx; obtain ⟨⟨a0, a1, a2, a3, a4, a5, a6, a7, a8, a9, a10, a11⟩, _⟩ : _ ∧ True := ⟨hSx.1.cells, trivial⟩; go_simp; (try with_reducible rfl))
      (try simp only [Act.put, List.getElem_toArray, List.getElem_cons_succ, List.getElem_cons_zero, List.setIfInBounds_toArray, List.set_cons_succ, List.set_cons_zero])
      refine wpAnyH_take (i := 3) (v := ?_) rfl (by kernel_rfl) (by kernel_rfl) (by kernel_rfl) (fun _ _ _ h => h) (Or.inl ⟨by rfl, ?_⟩) hHeld ?_
      rotate_left
      · (intro wx hSx; obtain ⟨⟨a0, a1, a2, a3, a4, a5, a6, a7, a8, a9, a10, a11⟩, _⟩ : _ ∧ True := ⟨hSx.1.cells, trivial⟩; go_simp; (try with_reducible rfl))
      (try simp only [Act.put, List.getElem_toArray, List.getElem_cons_succ, List.getElem_cons_zero, List.setIfInBounds_toArray, List.set_cons_succ, List.set_cons_zero])
      refine wpAnyH_take (i := 4) (v := ?_) rfl (by kernel_rfl) (by kernel_rfl) (by kernel_rfl) (fun _ _ _ h => h) (Or.inl ⟨by rfl, ?_⟩) hHeld ?_
      rotate_left
      · (intro wx hSx; obtain ⟨⟨a0, a1, a2, a3, a4, a5, a6, a7, a8, a9, a10, a11⟩, _⟩ : _ ∧ True := ⟨hSx.1.cells, trivial⟩; go_simp; (try with_reducible rfl))
      (try simp only [Act.put, List.getElem_toArray, List.getElem_cons_succ, List.getElem_cons_zero, List.setIfInBounds_toArray, List.set_cons_succ, List.set_cons_zero])
      refine wpAnyH_take (i := 5) (v := ?_) rfl (by kernel_rfl) (by kernel_rfl) (by kernel_rfl) (fun _ _ _ h => h) (Or.inl ⟨by rfl, ?_⟩) hHeld ?_
      rotate_left
      · (intro wx hSx; obtain ⟨⟨a0, a1, a2, a3, a4, a5, a6, a7, a8, a9, a10, a11⟩, _⟩ : _ ∧ True := ⟨hSx.1.cells, trivial⟩; go_simp; (try with_reducible rfl))
      (try simp only [Act.put, List.getElem_toArray, List.getElem_cons_succ, List.getElem_cons_zero, List.setIfInBounds_toArray, List.set_cons_succ, List.set_cons_zero])
      refine wpAnyH_take (i := 6) (v := ?_) rfl (by kernel_rfl) (by kernel_rfl) (by kernel_rfl) (fun _ _ _ h => h) (Or.inl ⟨by rfl, ?_⟩) hHeld ?_
      rotate_left
      · (intro wx hSx; obtain ⟨⟨a0, a1, a2, a3, a4, a5, a6, a7, a8, a9, a10, a11⟩, _⟩ : _ ∧ True := ⟨hSx.1.cells, trivial⟩; go_simp; (try with_reducible rfl))
      (try simp only [Act.put, List.getElem_toArray, List.getElem_cons_succ, List.getElem_cons_zero, List.setIfInBounds_toArray, List.set_cons_succ, List.set_cons_zero])
      refine wpAnyH_take (i := 7) (v := ?_) rfl (by kernel_rfl) (by kernel_rfl) (by kernel_rfl) (fun _ _ _ h => h) (Or.inl ⟨by rfl, ?_⟩) hHeld ?_
      rotate_left
      · (intro wx hSx; obtain ⟨⟨a0, a1, a2, a3, a4, a5, a6, a7, a8, a9, a10, a11⟩, _⟩ : _ ∧ True := ⟨hSx.1.cells, trivial⟩; go_simp; (try with_reducible rfl))
      (try simp only [Act.put, List.getElem_toArray, List.getElem_cons_succ, List.getElem_cons_zero, List.setIfInBounds_toArray, List.set_cons_succ, List.set_cons_zero])
      refine wpAnyH_ready (rs := [8]) (by kernel_rfl) (by simp) ?_
      refine AllReadyH.cons rfl (fun K hK => ?_) AllReadyH.nil
      rw [if_pos (by rfl)]
      go_simp
      refine (HST.out _ HH.out).mono ?_
      rintro e w1 ⟨rfl, hb1⟩
      have HH := Lib.hid (HH.out.next hb1)
      (try simp only [])
      refine hK.out _ _ HH.out (fun hHeld => ?_)
      clear hb1
      clear hK K
      (try simp only [Act.put, List.getElem_toArray, List.getElem_cons_succ, List.getElem_cons_zero, List.setIfInBounds_toArray, List.set_cons_succ, List.set_cons_zero])
      refine wpAnyH_take (i := 9) (v := ?_) rfl (by kernel_rfl) (by kernel_rfl) (by kernel_rfl) (fun _ _ _ h => h) (Or.inl ⟨by rfl, ?_⟩) hHeld ?_
      rotate_left
      · (intro wx hSx; obtain ⟨⟨a0, a1, a2, a3, a4, a5, a6, a7, a8, a9, a10, a11⟩, _⟩ : _ ∧ True := ⟨hSx.1.cells, trivial⟩; go_simp; (try with_reducible rfl))
      (try simp only [Act.put, List.getElem_toArray, List.getElem_cons_succ, List.getElem_cons_zero, List.setIfInBounds_toArray, List.set_cons_succ, List.set_cons_zero])
      refine wpAnyH_take (i := 10) (v := ?_) rfl (by kernel_rfl) (by kernel_rfl) (by kernel_rfl) (fun _ _ _ h => h) (Or.inl ⟨by rfl, ?_⟩) hHeld ?_
      rotate_left
      · (intro wx hSx; obtain ⟨⟨a0, a1, a2, a3, a4, a5, a6, a7, a8, a9, a10, a11⟩, _⟩ : _ ∧ True := ⟨hSx.1.cells, trivial⟩; go_simp; (try with_reducible rfl))
      (try simp only [Act.put, List.getElem_toArray, List.getElem_cons_succ, List.getElem_cons_zero, List.setIfInBounds_toArray, List.set_cons_succ, List.set_cons_zero])
      refine wpAnyH_take (i := 11) (v := ?_) rfl (by kernel_rfl) (by kernel_rfl) (by kernel_rfl) (fun _ _ _ h => h) (Or.inl ⟨by rfl, ?_⟩) hHeld ?_
      rotate_left
      · (intro wx hSx; obtain ⟨⟨a0, a1, a2, a3, a4, a5, a6, a7, a8, a9, a10, a11⟩, _⟩ : _ ∧ True := ⟨hSx.1.cells, trivial⟩; go_simp; (try with_reducible rfl))
      (try simp only [Act.put, List.getElem_toArray, List.getElem_cons_succ, List.getElem_cons_zero, List.setIfInBounds_toArray, List.set_cons_succ, List.set_cons_zero])
      refine wpAnyH_done (by kernel_rfl) ?_ _
      clear hHeld
      go_wp2
      go_ret
      exact ⟨rfl, HH.out.2⟩
    · have d5 : (s.fin == -1) = false := by simpa using h5
      have HV : Hid (decide (afnS s) = false) := Lib.hid (decide_eq_false fun k => h5 (HAF.out.1 k).1)
      rw [HV.out]
      clear h5 HAF HV
      go_enter Try.func80, Try.ntmps80
      obtain ⟨a0, a1, a2, a3, a4, a5, a6, a7, a8, a9, a10, a11⟩ := HH.out.1.cells
      go_upto_region 4 with fail
      have HH := Lib.hid HH.out.drew
      refine wp_region_held_drew (S := (InB w s v1 v2 v3 v4)) (by kernel_rfl) HH.out (fun hHeld => ?_)
      refine wpAnyH_take (i := 0) (v := ?_) rfl (by kernel_rfl) (by kernel_rfl) (by kernel_rfl) (fun _ _ _ h => h) (Or.inl ⟨by rfl, ?_⟩) hHeld ?_
      rotate_left
      · (intro wx hSx; obtain ⟨⟨a0, a1, a2, a3, a4, a5, a6, a7, a8, a9, a10, a11⟩, _⟩ : _ ∧ True := ⟨hSx.1.cells, trivial⟩; go_simp; (try with_reducible rfl))
      (try simp only [Act.put, List.getElem_toArray, List.getElem_cons_zero, List.setIfInBounds_toArray, List.set_cons_succ, List.set_cons_zero])
      refine wpAnyH_take (i := 1) (v := ?_) rfl (by kernel_rfl) (by kernel_rfl) (by kernel_rfl) (fun _ _ _ h => h) (Or.inl ⟨by rfl, ?_⟩) hHeld ?_
      rotate_left
      · (intro wx hSx; obtain ⟨⟨a0, a1, a2, a3, a4, a5, a6, a7, a8, a9, a10, a11⟩, _⟩ : _ ∧ True := ⟨hSx.1.cells, trivial⟩; go_simp; (try with_reducible rfl))
      (try simp only [Act.put, List.getElem_toArray, List.getElem_cons_succ, List.getElem_cons_zero, List.setIfInBounds_toArray, List.set_cons_succ, List.set_cons_zero])
      refine wpAnyH_take (i := 2) (v := ?_) rfl (by kernel_rfl) (by kernel_rfl) (by kernel_rfl) (fun _ _ _ h => h) (Or.inl ⟨by rfl, ?_⟩) hHeld ?_
      rotate_left
      · (intro wx hSx; obtain ⟨⟨a0, a1, a2, a3, a4, a5, a6, a7, a8, a9, a10, a11⟩, _⟩ : _ ∧ True := ⟨hSx.1.cells, trivial⟩; go_simp; (try with_reducible rfl))
      (try simp only [Act.put, List.getElem_toArray, List.getElem_cons_succ, List.getElem_cons_zero, List.setIfInBounds_toArray, List.set_cons_succ, List.set_cons_zero])
      refine wpAnyH_take (i := 3) (v := ?_) rfl (by kernel_rfl) (by kernel_rfl) (by kernel_rfl) (fun _ _ _ h => h) (Or.inl ⟨by rfl, ?_⟩) hHeld ?_
      rotate_left
      · (intro wx hSx; obtain ⟨⟨a0, a1, a2, a3, a4, a5, a6, a7, a8, a9, a10, a11⟩, _⟩ : _ ∧ True := ⟨hSx.1.cells, trivial⟩; go_simp; (try with_reducible rfl))
      (try simp only [Act.put, List.getElem_toArray, List.getElem_cons_succ, List.getElem_cons_zero, List.setIfInBounds_toArray, List.set_cons_succ, List.set_cons_zero])
      refine wpAnyH_take (i := 4) (v := ?_) rfl (by kernel_rfl) (by kernel_rfl) (by kernel_rfl) (fun _ _ _ h => h) (Or.inl ⟨by rfl, ?_⟩) hHeld ?_
      rotate_left
      · (intro wx hSx; obtain ⟨⟨a0, a1, a2, a3, a4, a5, a6, a7, a8, a9, a10, a11⟩, _⟩ : _ ∧ True := ⟨hSx.1.cells, trivial⟩; go_simp; (try with_reducible rfl))
      (try simp only [Act.put, List.getElem_toArray, List.getElem_cons_succ, List.getElem_cons_zero, List.setIfInBounds_toArray, List.set_cons_succ, List.set_cons_zero])
      refine wpAnyH_take (i := 5) (v := undef) rfl (by kernel_rfl) (by kernel_rfl) (by kernel_rfl) (fun _ _ _ h => h) (Or.inr ⟨by rfl, rfl⟩) hHeld ?_
      (try simp only [Act.put, List.getElem_toArray, List.getElem_cons_succ, List.getElem_cons_zero, List.setIfInBounds_toArray, List.set_cons_succ, List.set_cons_zero])
      refine wpAnyH_take (i := 6) (v := undef) rfl (by kernel_rfl) (by kernel_rfl) (by kernel_rfl) (fun _ _ _ h => h) (Or.inr ⟨by rfl, rfl⟩) hHeld ?_
      (try simp only [Act.put, List.getElem_toArray, List.getElem_cons_succ, List.getElem_cons_zero, List.setIfInBounds_toArray, List.set_cons_succ, List.set_cons_zero])
      refine wpAnyH_take (i := 7) (v := undef) rfl (by kernel_rfl) (by kernel_rfl) (by kernel_rfl) (fun _ _ _ h => h) (Or.inr ⟨by rfl, rfl⟩) hHeld ?_
      (try simp only [Act.put, List.getElem_toArray, List.getElem_cons_succ, List.getElem_cons_zero, List.setIfInBounds_toArray, List.set_cons_succ, List.set_cons_zero])
      refine wpAnyH_take (i := 8) (v := undef) rfl (by kernel_rfl) (by kernel_rfl) (by kernel_rfl) (fun _ _ _ h => h) (Or.inr ⟨by rfl, rfl⟩) hHeld ?_
      (try simp only [Act.put, List.getElem_toArray, List.getElem_cons_succ, List.getElem_cons_zero, List.setIfInBounds_toArray, List.set_cons_succ, List.set_cons_zero])
      refine wpAnyH_take (i := 9) (v := undef) rfl (by kernel_rfl) (by kernel_rfl) (by kernel_rfl) (fun _ _ _ h => h) (Or.inr ⟨by rfl, rfl⟩) hHeld ?_
      (try simp only [Act.put, List.getElem_toArray, List.getElem_cons_succ, List.getElem_cons_zero, List.setIfInBounds_toArray, List.set_cons_succ, List.set_cons_zero])
      refine wpAnyH_take (i := 10) (v := ?_) rfl (by kernel_rfl) (by kernel_rfl) (by kernel_rfl) (fun _ _ _ h => h) (Or.inl ⟨by rfl, ?_⟩) hHeld ?_
      rotate_left
      · (intro wx hSx; obtain ⟨⟨a0, a1, a2, a3, a4, a5, a6, a7, a8, a9, a10, a11⟩, _⟩ : _ ∧ True := ⟨hSx.1.cells, trivial⟩; go_simp; (try with_reducible rfl))
      (try simp only [Act.put, List.getElem_toArray, List.getElem_cons_succ, List.getElem_cons_zero, List.setIfInBounds_toArray, List.set_cons_succ, List.set_cons_zero])
      refine wpAnyH_take (i := 11) (v := ?_) rfl (by kernel_rfl) (by kernel_rfl) (by kernel_rfl) (fun _ _ _ h => h) (Or.inl ⟨by rfl, ?_⟩) hHeld ?_
      rotate_left
      · (intro wx hSx; obtain ⟨⟨a0, a1, a2, a3, a4, a5, a6, a7, a8, a9, a10, a11⟩, _⟩ : _ ∧ True := ⟨hSx.1.cells, trivial⟩; go_simp; (try with_reducible rfl))
      (try simp only [Act.put, List.getElem_toArray, List.getElem_cons_succ, List.getElem_cons_zero, List.setIfInBounds_toArray, List.set_cons_succ, List.set_cons_zero])
      refine wpAnyH_done (by kernel_rfl) ?_ _
      clear hHeld
      go_wp2
      go_ret
      exact ⟨rfl, HH.out.2⟩
  · have d0 : (s.fi == 0) = false := by simpa using h0
    rw [if_neg h0] at HAF
    clear h0
    by_cases h5 : s.fin = s.rn.en
    · have d5 : (s.fin == s.rn.en) = true := by simpa using h5
      have HV : Hid (decide (afnS s) = (s.st == f0)) := Lib.hid (by
        rw [show (s.st == f0) = decide (s.st = f0) from rfl]
        exact decide_eq_decide.2 (HAF.out.trans ⟨fun k => k.2, fun k => ⟨h5, k⟩⟩))
      rw [HV.out]
      clear h5 HAF HV
      go_enter Try.func80, Try.ntmps80
      obtain ⟨a0, a1, a2, a3, a4, a5, a6, a7, a8, a9, a10, a11⟩ := HH.out.1.cells
      go_upto_region 4 with fail
      have HH := Lib.hid HH.out.drew
      refine wp_region_held_drew (S := (InB w s v1 v2 v3 v4)) (by kernel_rfl) HH.out (fun hHeld => ?_)
      refine wpAnyH_take (i := 0) (v := ?_) rfl (by kernel_rfl) (by kernel_rfl) (by kernel_rfl) (fun _ _ _ h => h) (Or.inl ⟨by rfl, ?_⟩) hHeld ?_
      rotate_left
      · (intro wx hSx; obtain ⟨⟨a0, a1, a2, a3, a4, a5, a6, a7, a8, a9, a10, a11⟩, _⟩ : _ ∧ True := ⟨hSx.1.cells, trivial⟩; go_simp; (try with_reducible rfl))
      (try simp only [Act.put, List.getElem_toArray, List.getElem_cons_zero, List.setIfInBounds_toArray, List.set_cons_succ, List.set_cons_zero])
      refine wpAnyH_take (i := 1) (v := ?_) rfl (by kernel_rfl) (by kernel_rfl) (by kernel_rfl) (fun _ _ _ h => h) (Or.inl ⟨by rfl, ?_⟩) hHeld ?_
      rotate_left
      · (intro wx hSx; obtain ⟨⟨a0, a1, a2, a3, a4, a5, a6, a7, a8, a9, a10, a11⟩, _⟩ : _ ∧ True := ⟨hSx.1.cells, trivial⟩; go_simp; (try with_reducible rfl))
      (try simp only [Act.put, List.getElem_toArray, List.getElem_cons_succ, List.getElem_cons_zero, List.setIfInBounds_toArray, List.set_cons_succ, List.set_cons_zero])
      refine wpAnyH_take (i := 2) (v := ?_) rfl (by kernel_rfl) (by kernel_rfl) (by kernel_rfl) (fun _ _ _ h => h) (Or.inl ⟨by rfl, ?_⟩) hHeld ?_
      rotate_left
      · (intro wx hSx; obtain ⟨⟨a0, a1, a2, a3, a4, a5, a6, a7, a8, a9, a10, a11⟩, _⟩ : _ ∧ True := ⟨hSx.1.cells, trivial⟩; go_simp; (try with_reducible rfl))
      (try simp only [Act.put, List.getElem_toArray, List.getElem_cons_succ, List.getElem_cons_zero, List.setIfInBounds_toArray, List.set_cons_succ, List.set_cons_zero])
      refine wpAnyH_take (i := 3) (v := ?_) rfl (by kernel_rfl) (by kernel_rfl) (by kernel_rfl) (fun _ _ _ h => h) (Or.inl ⟨by rfl, ?_⟩) hHeld ?_
      rotate_left
      · (intro wx hSx; obtain ⟨⟨a0, a1, a2, a3, a4, a5, a6, a7, a8, a9, a10, a11⟩, _⟩ : _ ∧ True := ⟨hSx.1.cells, trivial⟩; go_simp; (try with_reducible rfl))
      (try simp only [Act.put, List.getElem_toArray, List.getElem_cons_succ, List.getElem_cons_zero, List.setIfInBounds_toArray, List.set_cons_succ, List.set_cons_zero])
      refine wpAnyH_take (i := 4) (v := ?_) rfl (by kernel_rfl) (by kernel_rfl) (by kernel_rfl) (fun _ _ _ h => h) (Or.inl ⟨by rfl, ?_⟩) hHeld ?_
      rotate_left
      · (intro wx hSx; obtain ⟨⟨a0, a1, a2, a3, a4, a5, a6, a7, a8, a9, a10, a11⟩, _⟩ : _ ∧ True := ⟨hSx.1.cells, trivial⟩; go_simp; (try with_reducible rfl))
      (try simp only [Act.put, List.getElem_toArray, List.getElem_cons_succ, List.getElem_cons_zero, List.setIfInBounds_toArray, List.set_cons_succ, List.set_cons_zero])
      refine wpAnyH_take (i := 5) (v := ?_) rfl (by kernel_rfl) (by kernel_rfl) (by kernel_rfl) (fun _ _ _ h => h) (Or.inl ⟨by rfl, ?_⟩) hHeld ?_
      rotate_left
      · (intro wx hSx; obtain ⟨⟨a0, a1, a2, a3, a4, a5, a6, a7, a8, a9, a10, a11⟩, _⟩ : _ ∧ True := ⟨hSx.1.cells, trivial⟩; go_simp; (try with_reducible rfl))
      (try simp only [Act.put, List.getElem_toArray, List.getElem_cons_succ, List.getElem_cons_zero, List.setIfInBounds_toArray, List.set_cons_succ, List.set_cons_zero])
      refine wpAnyH_take (i := 6) (v := ?_) rfl (by kernel_rfl) (by kernel_rfl) (by kernel_rfl) (fun _ _ _ h => h) (Or.inl ⟨by rfl, ?_⟩) hHeld ?_
      rotate_left
      · (intro wx hSx; obtain ⟨⟨a0, a1, a2, a3, a4, a5, a6, a7, a8, a9, a10, a11⟩, _⟩ : _ ∧ True := ⟨hSx.1.cells, trivial⟩; go_simp; (try with_reducible rfl))
      (try simp only [Act.put, List.getElem_toArray, List.getElem_cons_succ, List.getElem_cons_zero, List.setIfInBounds_toArray, List.set_cons_succ, List.set_cons_zero])
      refine wpAnyH_take (i := 7) (v := ?_) rfl (by kernel_rfl) (by kernel_rfl) (by kernel_rfl) (fun _ _ _ h => h) (Or.inl ⟨by rfl, ?_⟩) hHeld ?_
      rotate_left
      · (intro wx hSx; obtain ⟨⟨a0, a1, a2, a3, a4, a5, a6, a7, a8, a9, a10, a11⟩, _⟩ : _ ∧ True := ⟨hSx.1.cells, trivial⟩; go_simp; (try with_reducible rfl))
      (try simp only [Act.put, List.getElem_toArray, List.getElem_cons_succ, List.getElem_cons_zero, List.setIfInBounds_toArray, List.set_cons_succ, List.set_cons_zero])
      refine wpAnyH_ready (rs := [8]) (by kernel_rfl) (by simp) ?_
      refine AllReadyH.cons rfl (fun K hK => ?_) AllReadyH.nil
      rw [if_pos (by rfl)]
      go_simp
      refine (HST.out _ HH.out).mono ?_
      rintro e w1 ⟨rfl, hb1⟩
      have HH := Lib.hid (HH.out.next hb1)
      (try simp only [])
      refine hK.out _ _ HH.out (fun hHeld => ?_)
      clear hb1
      clear hK K
      (try simp only [Act.put, List.getElem_toArray, List.getElem_cons_succ, List.getElem_cons_zero, List.setIfInBounds_toArray, List.set_cons_succ, List.set_cons_zero])
      refine wpAnyH_take (i := 9) (v := ?_) rfl (by kernel_rfl) (by kernel_rfl) (by kernel_rfl) (fun _ _ _ h => h) (Or.inl ⟨by rfl, ?_⟩) hHeld ?_
      rotate_left
      · (intro wx hSx; obtain ⟨⟨a0, a1, a2, a3, a4, a5, a6, a7, a8, a9, a10, a11⟩, _⟩ : _ ∧ True := ⟨hSx.1.cells, trivial⟩; go_simp; (try with_reducible rfl))
      (try simp only [Act.put, List.getElem_toArray, List.getElem_cons_succ, List.getElem_cons_zero, List.setIfInBounds_toArray, List.set_cons_succ, List.set_cons_zero])
      refine wpAnyH_take (i := 10) (v := ?_) rfl (by kernel_rfl) (by kernel_rfl) (by kernel_rfl) (fun _ _ _ h => h) (Or.inl ⟨by rfl, ?_⟩) hHeld ?_
      rotate_left
      · (intro wx hSx; obtain ⟨⟨a0, a1, a2, a3, a4, a5, a6, a7, a8, a9, a10, a11⟩, _⟩ : _ ∧ True := ⟨hSx.1.cells, trivial⟩; go_simp; (try with_reducible rfl))
      (try simp only [Act.put, List.getElem_toArray, List.getElem_cons_succ, List.getElem_cons_zero, List.setIfInBounds_toArray, List.set_cons_succ, List.set_cons_zero])
      refine wpAnyH_take (i := 11) (v := ?_) rfl (by kernel_rfl) (by kernel_rfl) (by kernel_rfl) (fun _ _ _ h => h) (Or.inl ⟨by rfl, ?_⟩) hHeld ?_
      rotate_left
      · (intro wx hSx; obtain ⟨⟨a0, a1, a2, a3, a4, a5, a6, a7, a8, a9, a10, a11⟩, _⟩ : _ ∧ True := ⟨hSx.1.cells, trivial⟩; go_simp; (try with_reducible rfl))
      (try simp only [Act.put, List.getElem_toArray, List.getElem_cons_succ, List.getElem_cons_zero, List.setIfInBounds_toArray, List.set_cons_succ, List.set_cons_zero])
      refine wpAnyH_done (by kernel_rfl) ?_ _
      clear hHeld
      go_wp2
      go_ret
      exact ⟨rfl, HH.out.2⟩
    · have d5 : (s.fin == s.rn.en) = false := by simpa using h5
      have HV : Hid (decide (afnS s) = false) := Lib.hid (decide_eq_false fun k => h5 (HAF.out.1 k).1)
      rw [HV.out]
      clear h5 HAF HV
      go_enter Try.func80, Try.ntmps80
      obtain ⟨a0, a1, a2, a3, a4, a5, a6, a7, a8, a9, a10, a11⟩ := HH.out.1.cells
      go_upto_region 4 with fail
      have HH := Lib.hid HH.out.drew
      refine wp_region_held_drew (S := (InB w s v1 v2 v3 v4)) (by kernel_rfl) HH.out (fun hHeld => ?_)
      refine wpAnyH_take (i := 0) (v := ?_) rfl (by kernel_rfl) (by kernel_rfl) (by kernel_rfl) (fun _ _ _ h => h) (Or.inl ⟨by rfl, ?_⟩) hHeld ?_
      rotate_left
      · (intro wx hSx; obtain ⟨⟨a0, a1, a2, a3, a4, a5, a6, a7, a8, a9, a10, a11⟩, _⟩ : _ ∧ True := ⟨hSx.1.cells, trivial⟩; go_simp; (try with_reducible rfl))
      (try simp only [Act.put, List.getElem_toArray, List.getElem_cons_zero, List.setIfInBounds_toArray, List.set_cons_succ, List.set_cons_zero])
      refine wpAnyH_take (i := 1) (v := ?_) rfl (by kernel_rfl) (by kernel_rfl) (by kernel_rfl) (fun _ _ _ h => h) (Or.inl ⟨by rfl, ?_⟩) hHeld ?_
      rotate_left
      · (intro wx hSx; obtain ⟨⟨a0, a1, a2, a3, a4, a5, a6, a7, a8, a9, a10, a11⟩, _⟩ : _ ∧ True := ⟨hSx.1.cells, trivial⟩; go_simp; (try with_reducible rfl))
      (try simp only [Act.put, List.getElem_toArray, List.getElem_cons_succ, List.getElem_cons_zero, List.setIfInBounds_toArray, List.set_cons_succ, List.set_cons_zero])
      refine wpAnyH_take (i := 2) (v := ?_) rfl (by kernel_rfl) (by kernel_rfl) (by kernel_rfl) (fun _ _ _ h => h) (Or.inl ⟨by rfl, ?_⟩) hHeld ?_
      rotate_left
      · (intro wx hSx; obtain ⟨⟨a0, a1, a2, a3, a4, a5, a6, a7, a8, a9, a10, a11⟩, _⟩ : _ ∧ True := ⟨hSx.1.cells, trivial⟩; go_simp; (try with_reducible rfl))
      (try simp only [Act.put, List.getElem_toArray, List.getElem_cons_succ, List.getElem_cons_zero, List.setIfInBounds_toArray, List.set_cons_succ, List.set_cons_zero])
      refine wpAnyH_take (i := 3) (v := ?_) rfl (by kernel_rfl) (by kernel_rfl) (by kernel_rfl) (fun _ _ _ h => h) (Or.inl ⟨by rfl, ?_⟩) hHeld ?_
      rotate_left
      · (intro wx hSx; obtain ⟨⟨a0, a1, a2, a3, a4, a5, a6, a7, a8, a9, a10, a11⟩, _⟩ : _ ∧ True := ⟨hSx.1.cells, trivial⟩; go_simp; (try with_reducible rfl))
      (try simp only [Act.put, List.getElem_toArray, List.getElem_cons_succ, List.getElem_cons_zero, List.setIfInBounds_toArray, List.set_cons_succ, List.set_cons_zero])
      refine wpAnyH_take (i := 4) (v := ?_) rfl (by kernel_rfl) (by kernel_rfl) (by kernel_rfl) (fun _ _ _ h => h) (Or.inl ⟨by rfl, ?_⟩) hHeld ?_
      rotate_left
      · (intro wx hSx; obtain ⟨⟨a0, a1, a2, a3, a4, a5, a6, a7, a8, a9, a10, a11⟩, _⟩ : _ ∧ True := ⟨hSx.1.cells, trivial⟩; go_simp; (try with_reducible rfl))
      (try simp only [Act.put, List.getElem_toArray, List.getElem_cons_succ, List.getElem_cons_zero, List.setIfInBounds_toArray, List.set_cons_succ, List.set_cons_zero])
      refine wpAnyH_take (i := 5) (v := undef) rfl (by kernel_rfl) (by kernel_rfl) (by kernel_rfl) (fun _ _ _ h => h) (Or.inr ⟨by rfl, rfl⟩) hHeld ?_
      (try simp only [Act.put, List.getElem_toArray, List.getElem_cons_succ, List.getElem_cons_zero, List.setIfInBounds_toArray, List.set_cons_succ, List.set_cons_zero])
      refine wpAnyH_take (i := 6) (v := undef) rfl (by kernel_rfl) (by kernel_rfl) (by kernel_rfl) (fun _ _ _ h => h) (Or.inr ⟨by rfl, rfl⟩) hHeld ?_
      (try simp only [Act.put, List.getElem_toArray, List.getElem_cons_succ, List.getElem_cons_zero, List.setIfInBounds_toArray, List.set_cons_succ, List.set_cons_zero])
      refine wpAnyH_take (i := 7) (v := undef) rfl (by kernel_rfl) (by kernel_rfl) (by kernel_rfl) (fun _ _ _ h => h) (Or.inr ⟨by rfl, rfl⟩) hHeld ?_
      (try simp only [Act.put, List.getElem_toArray, List.getElem_cons_succ, List.getElem_cons_zero, List.setIfInBounds_toArray, List.set_cons_succ, List.set_cons_zero])
      refine wpAnyH_take (i := 8) (v := undef) rfl (by kernel_rfl) (by kernel_rfl) (by kernel_rfl) (fun _ _ _ h => h) (Or.inr ⟨by rfl, rfl⟩) hHeld ?_
      (try simp only [Act.put, List.getElem_toArray, List.getElem_cons_succ, List.getElem_cons_zero, List.setIfInBounds_toArray, List.set_cons_succ, List.set_cons_zero])
      refine wpAnyH_take (i := 9) (v := undef) rfl (by kernel_rfl) (by kernel_rfl) (by kernel_rfl) (fun _ _ _ h => h) (Or.inr ⟨by rfl, rfl⟩) hHeld ?_
      (try simp only [Act.put, List.getElem_toArray, List.getElem_cons_succ, List.getElem_cons_zero, List.setIfInBounds_toArray, List.set_cons_succ, List.set_cons_zero])
      refine wpAnyH_take (i := 10) (v := ?_) rfl (by kernel_rfl) (by kernel_rfl) (by kernel_rfl) (fun _ _ _ h => h) (Or.inl ⟨by rfl, ?_⟩) hHeld ?_
      rotate_left
      · (intro wx hSx; obtain ⟨⟨a0, a1, a2, a3, a4, a5, a6, a7, a8, a9, a10, a11⟩, _⟩ : _ ∧ True := ⟨hSx.1.cells, trivial⟩; go_simp; (try with_reducible rfl))
      (try simp only [Act.put, List.getElem_toArray, List.getElem_cons_succ, List.getElem_cons_zero, List.setIfInBounds_toArray, List.set_cons_succ, List.set_cons_zero])
      refine wpAnyH_take (i := 11) (v := ?_) rfl (by kernel_rfl) (by kernel_rfl) (by kernel_rfl) (fun _ _ _ h => h) (Or.inl ⟨by rfl, ?_⟩) hHeld ?_
      rotate_left
      · (intro wx hSx; obtain ⟨⟨a0, a1, a2, a3, a4, a5, a6, a7, a8, a9, a10, a11⟩, _⟩ : _ ∧ True := ⟨hSx.1.cells, trivial⟩; go_simp; (try with_reducible rfl))
      (try simp only [Act.put, List.getElem_toArray, List.getElem_cons_succ, List.getElem_cons_zero, List.setIfInBounds_toArray, List.set_cons_succ, List.set_cons_zero])
      refine wpAnyH_done (by kernel_rfl) ?_ _
      clear hHeld
      go_wp2
      go_ret
      exact ⟨rfl, HH.out.2⟩
end Go.Proofs.Ytjohbfdifdjldac

namespace Go.Proofs.Ytjohbfdifdjldac
open Go.RowKit Go.Deep Go.Proofs.Ytjohbfdifdjldac.Num

set_option maxRecDepth 100000 in
/-- impl.isRingSize -/
theorem isize (n : Int) (w : World) :
    Calls Try.prog 91 #[.int .i64 n] w fun e w' => e = .returned (.bool (decide (powR n))) ∧ w' = w := by
  by_cases h0 : 1 ≤ n
  · have d0 : decide (1 ≤ n) = true := decide_eq_true h0
    by_cases h1 : n ≤ 64
    · have d1 : decide (n ≤ 64) = true := decide_eq_true h1
      obtain ⟨m, hm⟩ : ∃ m, n - 1 = m := ⟨_, rfl⟩
      have hw : wrap64 (n - 1) = m := by rw [← hm]; unfold wrap64; omega
      have HV := Lib.hid (pow_bits (show 0 < n by omega) h1)
      rw [hm] at HV
      clear h0 h1 hm
      go_enter Try.func91, Try.ntmps91
      go_wp2
      go_ret
      exact ⟨by rw [← HV.out]; rfl, rfl⟩
    · have d1 : decide (n ≤ 64) = false := decide_eq_false h1
      rw [decide_eq_false (show ¬ powR n from fun h => h1 h.lo.2)]
      clear h0 h1
      go_enter Try.func91, Try.ntmps91
      go_wp2
      go_ret
      exact ⟨rfl, rfl⟩
  · have d0 : decide (1 ≤ n) = false := decide_eq_false h0
    rw [decide_eq_false (show ¬ powR n from fun h => by have := h.lo.1; omega)]
    clear h0
    go_enter Try.func91, Try.ntmps91
    go_wp2
    go_ret
    exact ⟨rfl, rfl⟩

set_option maxRecDepth 100000 in
/-- impl.isNoByte -/
theorem inobyte (n : Int) (w : World) :
    Calls Try.prog 93 #[.int .i64 n] w fun e w' => e = .returned (.bool (!decide (0 ≤ n ∧ n ≤ 255))) ∧ w' = w := by
  by_cases h0 : n < 0
  · have d0 : decide (n < 0) = true := decide_eq_true h0
    rw [decide_eq_false (show ¬ (0 ≤ n ∧ n ≤ 255) by omega)]
    clear h0
    go_enter Try.func93, Try.ntmps93
    go_wp2
    go_ret
    exact ⟨rfl, rfl⟩
  · have d0 : decide (n < 0) = false := decide_eq_false h0
    have HV : Hid ((!decide (0 ≤ n ∧ n ≤ 255)) = decide (255 < n)) := Lib.hid (by
      by_cases h1 : 255 < n
      · rw [decide_eq_true h1, decide_eq_false (show ¬ (0 ≤ n ∧ n ≤ 255) by omega)]; rfl
      · rw [decide_eq_false h1, decide_eq_true (show 0 ≤ n ∧ n ≤ 255 by omega)]; rfl)
    rw [HV.out]
    clear h0
    go_enter Try.func93, Try.ntmps93
    go_wp2
    go_ret
    exact ⟨rfl, rfl⟩

set_option maxRecDepth 100000 in
/-- slices.IndexFunc, of the cells that are no bytes -/
theorem iindexf (l : List Int) (A : Option Addr) (cap B : Nat) (w : World) (hr : Ints w B A l) (hn : l.length ≤ 1000000000) :
    Calls Try.prog 101 #[.slice A l.length cap, .func (.func 93) #[] #[]] w fun e w' => (∃ i : Int, e = .returned (.int .i64 i) ∧ (0 ≤ i ↔ ¬ ∀ z ∈ l, 0 ≤ z ∧ z ≤ 255)) ∧ w' = w := by
  have HN := Lib.hid hr
  clear hr
  go_enter Try.func101, Try.ntmps101
  go_wp2
  go_loop [8] (fun x => ∃ j : Nat, j ≤ l.length ∧ x = .int .i64 j ∧ ∀ z ∈ l.take j, 0 ≤ z ∧ z ≤ 255) (fun x => l.length - (intOf x).toNat)
  case atStart => exact ⟨0, Nat.zero_le _, rfl, fun z hz => by simp at hz⟩
  case round =>
    obtain ⟨j, hj, rfl, hno⟩ := hrel
    have HO := Lib.hid hno
    clear hno
    by_cases hlt : j < l.length
    · obtain ⟨b, off, rfl, hbB, hc⟩ := HN.out j hlt
      have HTK : Hid (∀ z, z ∈ l.take (j + 1) → z ∈ l.take j ∨ z = l[j]) := Lib.hid (fun z hz => by
        rw [List.take_succ_eq_append_getElem hlt] at hz
        rcases List.mem_append.1 hz with h | h
        · exact .inl h
        · exact .inr (List.mem_singleton.1 h))
      have HM : Hid (l[j] ∈ l) := Lib.hid (List.getElem_mem hlt)
      have HI := Lib.hid fun W => inobyte l[j] W
      generalize l[j] = z at *
      by_cases hz : 0 ≤ z ∧ z ≤ 255
      · have HZ := Lib.hid hz
        rw [decide_eq_true hz] at HI
        clear hz
        go_wp2_with fail
        refine (HI.out _).mono ?_
        rintro e w1 ⟨rfl, rfl⟩
        go_wp2
        go_round
        case rel => exact ⟨j + 1, hlt, by go_num, fun y hy => (HTK.out y hy).elim (fun h => HO.out y h) (fun h => by rw [h]; exact HZ.out)⟩
        case measure => simp [intOf]; omega
      · have HR : Hid (¬ ∀ y ∈ l, 0 ≤ y ∧ y ≤ 255) := Lib.hid fun h => hz (h z HM.out)
        rw [decide_eq_false hz] at HI
        clear hz
        go_wp2_with fail
        refine (HI.out _).mono ?_
        rintro e w1 ⟨rfl, rfl⟩
        go_wp2
        go_ret
        exact ⟨⟨_, rfl, fun _ => HR.out, fun _ => by omega⟩, rfl⟩
    · obtain rfl : j = l.length := by omega
      have HR : Hid (∀ z ∈ l, 0 ≤ z ∧ z ≤ 255) := Lib.hid (by
        have h := HO.out
        rwa [List.take_length] at h)
      go_wp2
      go_ret
      exact ⟨⟨_, rfl, fun h => by omega, fun h => by first | exact absurd HR.out h | (obtain ⟨z, h1, h2⟩ := h; have := HR.out z h1; omega)⟩, rfl⟩

set_option maxRecDepth 100000 in
/-- slices.ContainsFunc, of the cells that are no bytes -/
theorem icontf (l : List Int) (A : Option Addr) (cap B : Nat) (w : World) (hr : Ints w B A l) (hn : l.length ≤ 1000000000) :
    Calls Try.prog 92 #[.slice A l.length cap, .func (.func 93) #[] #[]] w fun e w' => e = .returned (.bool (!decide (∀ z ∈ l, 0 ≤ z ∧ z ≤ 255))) ∧ w' = w := by
  have HI := Lib.hid (iindexf l A cap B w hr hn)
  clear hr
  go_enter Try.func92, Try.ntmps92
  go_wp2_with fail
  refine HI.out.mono ?_
  rintro e w1 ⟨⟨i, rfl, hi⟩, rfl⟩
  have HE : Hid ((!decide (∀ z ∈ l, 0 ≤ z ∧ z ≤ 255)) = decide (0 ≤ i)) := Lib.hid (by
    rw [← decide_not]
    exact decide_eq_decide.2 hi.symm)
  clear hi
  go_wp2
  go_ret
  exact ⟨by rw [HE.out]; rfl, rfl⟩

set_option maxRecDepth 100000 in
set_option maxHeartbeats 2000000 in
/-- impl.IsRing -/
theorem iisrn (r : Rn) (A : Option Addr) (cap B : Nat) (w : World) (hB : B ≤ w.heap.size) (hr : Ints w B A r.cs) (hn : r.cs.length ≤ 1000000000) (hx : inRn r) :
    Calls Try.prog 74 #[rnV r (.slice A r.cs.length cap)] w fun e w' => e = .returned (.bool (decide (okRn r))) ∧ Below w.heap.size w w' := by
  have HH := Lib.hid (InRn.start w r A cap 32 (hr.up hB))
  have HPW := Lib.hid fun W => isize r.size W
  have HCF : Hid (∀ W, InRn w w.heap.size r A cap W → Calls Try.prog 92 #[.slice A r.cs.length cap, .func (.func 93) #[] #[]] W fun e w' => e = .returned (.bool (!decide (∀ z ∈ r.cs, 0 ≤ z ∧ z ≤ 255))) ∧ w' = W) := Lib.hid fun W h => icontf r.cs A cap _ W h.2.1 hn
  by_cases h0 : powR r.size
  rotate_left
  · have HV : Hid (decide (okRn r) = false) := Lib.hid (decide_eq_false (fun h => h0 h.1))
    rw [decide_eq_false h0] at HPW
    clear hr hn hx h0
    go_enter Try.func74, Try.ntmps74
    obtain ⟨a0, a1, a2, a3⟩ := HH.out.1
    go_wp2_with fail
    refine (HPW.out _).mono ?_
    rintro e w1 ⟨rfl, rfl⟩
    clear a0 a1 a2 a3
    obtain ⟨a0, a1, a2, a3⟩ := HH.out.1
    go_wp2
    go_ret
    exact ⟨by rw [HV.out]; rfl, HH.out.2.2.2⟩
  rw [decide_eq_true h0] at HPW
  by_cases h1 : (r.cs.length : Int) = r.size
  rotate_left
  · have HV : Hid (decide (okRn r) = false) := Lib.hid (decide_eq_false (fun h => h1 h.2.1))
    have d1 : ((r.cs.length : Int) != r.size) = true := by simpa using h1
    clear hr hn hx h0 h1
    go_enter Try.func74, Try.ntmps74
    obtain ⟨a0, a1, a2, a3⟩ := HH.out.1
    go_wp2_with fail
    refine (HPW.out _).mono ?_
    rintro e w1 ⟨rfl, rfl⟩
    clear a0 a1 a2 a3
    obtain ⟨a0, a1, a2, a3⟩ := HH.out.1
    go_wp2
    go_ret
    exact ⟨by rw [HV.out]; rfl, HH.out.2.2.2⟩
  have d1 : ((r.cs.length : Int) != r.size) = false := by simpa using h1
  by_cases h6 : ∀ z ∈ r.cs, 0 ≤ z ∧ z ≤ 255
  rotate_left
  · have HV : Hid (decide (okRn r) = false) := Lib.hid (decide_eq_false (fun h => h6 h.2.2.2.2.2.2))
    rw [decide_eq_false h6] at HCF
    clear hr hn hx h0 h1 h6
    go_enter Try.func74, Try.ntmps74
    obtain ⟨a0, a1, a2, a3⟩ := HH.out.1
    go_wp2_with fail
    refine (HPW.out _).mono ?_
    rintro e w1 ⟨rfl, rfl⟩
    clear a0 a1 a2 a3
    obtain ⟨a0, a1, a2, a3⟩ := HH.out.1
    go_wp2_with fail
    refine (HCF.out _ HH.out).mono ?_
    rintro e w1 ⟨rfl, rfl⟩
    clear a0 a1 a2 a3
    obtain ⟨a0, a1, a2, a3⟩ := HH.out.1
    go_wp2
    go_ret
    exact ⟨by rw [HV.out]; rfl, HH.out.2.2.2⟩
  rw [decide_eq_true h6] at HCF
  by_cases h2 : 0 ≤ r.base
  rotate_left
  · have HV : Hid (decide (okRn r) = false) := Lib.hid (decide_eq_false (fun h => h2 h.2.2.1))
    have d2 : decide (0 ≤ r.base) = false := decide_eq_false h2
    clear hr hn hx h0 h1 h2 h6
    go_enter Try.func74, Try.ntmps74
    obtain ⟨a0, a1, a2, a3⟩ := HH.out.1
    go_wp2_with fail
    refine (HPW.out _).mono ?_
    rintro e w1 ⟨rfl, rfl⟩
    clear a0 a1 a2 a3
    obtain ⟨a0, a1, a2, a3⟩ := HH.out.1
    go_wp2_with fail
    refine (HCF.out _ HH.out).mono ?_
    rintro e w1 ⟨rfl, rfl⟩
    clear a0 a1 a2 a3
    obtain ⟨a0, a1, a2, a3⟩ := HH.out.1
    go_wp2
    go_ret
    exact ⟨by rw [HV.out]; rfl, HH.out.2.2.2⟩
  have d2 : decide (0 ≤ r.base) = true := decide_eq_true h2
  by_cases h3 : r.base ≤ r.en
  rotate_left
  · have HV : Hid (decide (okRn r) = false) := Lib.hid (decide_eq_false (fun h => h3 h.2.2.2.1))
    have d3 : decide (r.base ≤ r.en) = false := decide_eq_false h3
    clear hr hn hx h0 h1 h2 h3 h6
    go_enter Try.func74, Try.ntmps74
    obtain ⟨a0, a1, a2, a3⟩ := HH.out.1
    go_wp2_with fail
    refine (HPW.out _).mono ?_
    rintro e w1 ⟨rfl, rfl⟩
    clear a0 a1 a2 a3
    obtain ⟨a0, a1, a2, a3⟩ := HH.out.1
    go_wp2_with fail
    refine (HCF.out _ HH.out).mono ?_
    rintro e w1 ⟨rfl, rfl⟩
    clear a0 a1 a2 a3
    obtain ⟨a0, a1, a2, a3⟩ := HH.out.1
    go_wp2
    go_ret
    exact ⟨by rw [HV.out]; rfl, HH.out.2.2.2⟩
  have d3 : decide (r.base ≤ r.en) = true := decide_eq_true h3
  obtain ⟨q, hq⟩ : ∃ q, r.en - r.base = q := ⟨_, rfl⟩
  have hw : wrap64 (r.en - r.base) = q := by
    have hx3 := hx.2.2
    rw [← hq]
    unfold wrap64
    clear hx
    omega
  by_cases h4 : q ≤ r.size
  rotate_left
  · have HV : Hid (decide (okRn r) = false) := Lib.hid (decide_eq_false (fun h => by have := h.2.2.2.2.1; omega))
    have d4 : decide (q ≤ r.size) = false := decide_eq_false h4
    clear hr hn hx h0 h1 h2 h3 h4 h6 hq
    go_enter Try.func74, Try.ntmps74
    obtain ⟨a0, a1, a2, a3⟩ := HH.out.1
    go_wp2_with fail
    refine (HPW.out _).mono ?_
    rintro e w1 ⟨rfl, rfl⟩
    clear a0 a1 a2 a3
    obtain ⟨a0, a1, a2, a3⟩ := HH.out.1
    go_wp2_with fail
    refine (HCF.out _ HH.out).mono ?_
    rintro e w1 ⟨rfl, rfl⟩
    clear a0 a1 a2 a3
    obtain ⟨a0, a1, a2, a3⟩ := HH.out.1
    go_wp2
    go_ret
    exact ⟨by rw [HV.out]; rfl, HH.out.2.2.2⟩
  have d4 : decide (q ≤ r.size) = true := decide_eq_true h4
  have HV : Hid (decide (okRn r) = decide (r.en ≤ 4611686018427387903)) := Lib.hid (decide_eq_decide.2 ⟨fun h => h.2.2.2.2.2.1, fun h => ⟨h0, h1, h2, h3, by omega, h, h6⟩⟩)
  clear hr hn hx h0 h1 h2 h3 h4 h6 hq
  go_enter Try.func74, Try.ntmps74
  obtain ⟨a0, a1, a2, a3⟩ := HH.out.1
  go_wp2_with fail
  refine (HPW.out _).mono ?_
  rintro e w1 ⟨rfl, rfl⟩
  clear a0 a1 a2 a3
  obtain ⟨a0, a1, a2, a3⟩ := HH.out.1
  go_wp2_with fail
  refine (HCF.out _ HH.out).mono ?_
  rintro e w1 ⟨rfl, rfl⟩
  clear a0 a1 a2 a3
  obtain ⟨a0, a1, a2, a3⟩ := HH.out.1
  go_wp2
  go_ret
  exact ⟨by rw [HV.out] <;> rfl, HH.out.2.2.2⟩

end Go.Proofs.Ytjohbfdifdjldac

namespace Go.Proofs.Ytjohbfdifdjldac
open Go.RowKit Go.Deep Go.Proofs.Ytjohbfdifdjldac.Num

theorem ReadS.t {w : World} {B : Nat} {A1 A2 A3 A4 : Option Addr} {s : Sn} (h : ReadS w B A1 A2 A3 A4 s) : ReadT w B A2 A3 A4 s := h.2
theorem ReadT.below {w w' : World} {B K : Nat} {A2 A3 A4 : Option Addr} {s : Sn} (h : ReadT w B A2 A3 A4 s) (hK : B ≤ K) (hb : Below K w w') : ReadT w' B A2 A3 A4 s := ⟨h.1.below hK hb, h.2.1.below hK hb, h.2.2.below hK hb⟩
/-- A sender, boxed, and its sets in block g. -/
def InBT (w : World) (s : Sn) (v1 v2 v3 v4 : Value) (g : Nat) (W : World) : Prop := InB w s v1 v2 v3 v4 W ∧ (W.cell? ⟨g, 0, none⟩ = some v2 ∧ W.cell? ⟨g, 1, none⟩ = some v3 ∧ W.cell? ⟨g, 2, none⟩ = some v4) ∧ g < W.heap.size
theorem InBT.start {w : World} {s : Sn} {v1 v2 v3 v4 : Value} {W : World} (h : InB w s v1 v2 v3 v4 W) (t : TypeId) : InBT w s v1 v2 v3 v4 W.heap.size (W.alloc (.cells #[v2, v3, v4] t)) :=
  ⟨h.next ((Below.refl _ _).alloc (Nat.le_refl _) _), cell_alloc3 W v2 v3 v4 t, by simp⟩
theorem InBT.next {w : World} {s : Sn} {v1 v2 v3 v4 : Value} {g : Nat} {W W' : World} (h : InBT w s v1 v2 v3 v4 g W) (hb : Below W.heap.size W W') : InBT w s v1 v2 v3 v4 g W' :=
  ⟨h.1.next hb, ⟨(hb.cell (p := ⟨g, 0, none⟩) h.2.2).trans h.2.1.1, (hb.cell (p := ⟨g, 1, none⟩) h.2.2).trans h.2.1.2.1, (hb.cell (p := ⟨g, 2, none⟩) h.2.2).trans h.2.1.2.2⟩, Nat.lt_of_lt_of_le h.2.2 hb.size⟩
set_option maxRecDepth 100000 in
set_option maxHeartbeats 16000000 in
/-- impl.IsSender -/
theorem iissn (s : Sn) (A1 A2 A3 A4 : Option Addr) (c1 c2 c3 c4 B : Nat) (w : World) (hB : B ≤ w.heap.size) (hr : ReadS w B A1 A2 A3 A4 s) (hn : LenS 1000000000 s) (hn2 : LenT s) (hc : CapT s c2 c3 c4) (hx : inRn s.rn) :
    Calls Try.prog 46 #[snV s (.slice A1 s.rn.cs.length c1) (.slice A2 s.pe.length c2) (.slice A3 s.fl.length c3) (.slice A4 s.ac.length c4)] w fun e w' => e = .returned (.bool (decide (docSn s))) ∧ Below w.heap.size w w' := by
  have HH := Lib.hid (InB.start w s (.slice A1 s.rn.cs.length c1) (.slice A2 s.pe.length c2) (.slice A3 s.fl.length c3) (.slice A4 s.ac.length c4))
  have HSO : Hid (∀ W, Below w.heap.size w W → Calls Try.prog 36 #[snV s (.slice A1 s.rn.cs.length c1) (.slice A2 s.pe.length c2) (.slice A3 s.fl.length c3) (.slice A4 s.ac.length c4)] W fun e w' => e = .returned (.agg #[.slice A2 s.pe.length c2, .slice A3 s.fl.length c3, .slice A4 s.ac.length c4]) ∧ Below W.heap.size W w') := Lib.hid fun W h => isetsof s _ A2 A3 A4 _ c2 _ c3 _ c4 W
  have HRN : Hid (∀ W, Below w.heap.size w W → Calls Try.prog 74 #[rnV s.rn (.slice A1 s.rn.cs.length c1)] W fun e w' => e = .returned (.bool (decide (okRn s.rn))) ∧ Below W.heap.size W w') := Lib.hid fun W h => iisrn s.rn A1 c1 B W (Nat.le_trans hB h.size) (hr.1.below hB h) (Nat.le_trans hn.1 (by decide)) hx
  have HBV : Hid (∀ W, Below w.heap.size w W → Calls Try.prog 75 #[.agg #[.slice A2 s.pe.length c2, .slice A3 s.fl.length c3, .slice A4 s.ac.length c4]] W fun e w' => e = .returned (.bool (decide (okR (-1) s.pe ∧ okR (-1) s.fl ∧ okR (-1) s.ac))) ∧ Below W.heap.size W w') := Lib.hid fun W h => isbv s A2 A3 A4 c2 c3 c4 B W (Nat.le_trans hB h.size) (hr.t.below hB h) hn2
  have HBE : Hid (∀ W, Below w.heap.size w W → Calls Try.prog 76 #[.agg #[.slice A2 s.pe.length c2, .slice A3 s.fl.length c3, .slice A4 s.ac.length c4]] W fun e w' => e = .returned (.bool (decide (s.pe = [] ∧ s.fl = [] ∧ s.ac = []))) ∧ Below W.heap.size W w') := Lib.hid fun W h => isbe s A2 A3 A4 c2 c3 c4 W
  have HGV : Hid (∀ W, Below w.heap.size w W → Calls Try.prog 77 #[snV s (.slice A1 s.rn.cs.length c1) (.slice A2 s.pe.length c2) (.slice A3 s.fl.length c3) (.slice A4 s.ac.length c4)] W fun e w' => e = .returned (.bool (decide (s.rn.base = s.rn.en ∧ s.sent = s.rn.en ∧ s.fin = s.rn.en ∧ s.fi = 0))) ∧ Below W.heap.size W w') := Lib.hid fun W h => igiven s _ _ _ _ W
  have HDV : Hid (okR (-1) s.pe ∧ okR (-1) s.fl ∧ okR (-1) s.ac → ∀ W, Below w.heap.size w W → Calls Try.prog 78 #[.agg #[.slice A2 s.pe.length c2, .slice A3 s.fl.length c3, .slice A4 s.ac.length c4], .int .i64 s.rn.en] W fun e w' => e = .returned (.bool (decide (divS s))) ∧ Below W.heap.size W w') := Lib.hid fun hk W h => isbdiv s A2 A3 A4 c2 c3 c4 B W (Nat.le_trans hB h.size) (hr.t.below hB h) hn2 hc hk
  have HAG : Hid (okR (-1) s.ac → ∀ W, Below w.heap.size w W → Calls Try.prog 79 #[.agg #[.slice A2 s.pe.length c2, .slice A3 s.fl.length c3, .slice A4 s.ac.length c4], snV s (.slice A1 s.rn.cs.length c1) (.slice A2 s.pe.length c2) (.slice A3 s.fl.length c3) (.slice A4 s.ac.length c4)] W fun e w' => e = .returned (.bool (decide (agrS s))) ∧ Below W.heap.size W w') := Lib.hid fun hk W h => isbag _ s A2 A3 A4 c2 c3 c4 B W (Nat.le_trans hB h.size) (hr.t.below hB h) hn2 hk
  have HAF : Hid (0 ≤ s.fi ∧ s.fi ≤ 3 → ∀ W, Below w.heap.size w W → Calls Try.prog 80 #[snV s (.slice A1 s.rn.cs.length c1) (.slice A2 s.pe.length c2) (.slice A3 s.fl.length c3) (.slice A4 s.ac.length c4)] W fun e w' => e = .returned (.bool (decide (afnS s))) ∧ Below W.heap.size W w') := Lib.hid fun hk W h => iagf s _ _ _ _ W hk
  clear hr hn hn2 hc hx
  by_cases h0 : okRn s.rn
  rotate_left
  · have HV : Hid (decide (docSn s) = false) := Lib.hid (decide_eq_false (fun k => h0 k.1.1))
    rw [decide_eq_false h0] at HRN
    clear h0 HBV HBE HGV HDV HAG HAF
    go_enter Try.func46, Try.ntmps46
    obtain ⟨a0, a1, a2, a3, a4, a5, a6, a7, a8, a9, a10, a11⟩ := HH.out.1.cells
    go_wp2_with fail
    refine (HSO.out _ HH.out.2).mono ?_
    rintro e w1 ⟨rfl, hb1⟩
    have HH := Lib.hid (InBT.start (HH.out.next hb1) 70)
    clear hb1 a0 a1 a2 a3 a4 a5 a6 a7 a8 a9 a10 a11
    go_upto_region 2 with fail
    generalize w1.alloc (.cells #[.slice A2 s.pe.length c2, .slice A3 s.fl.length c3, .slice A4 s.ac.length c4] 70) = w2 at *
    generalize w1.heap.size = g at *
    obtain ⟨a0, a1, a2, a3, a4, a5, a6, a7, a8, a9, a10, a11⟩ := HH.out.1.1.cells
    obtain ⟨t0, t1, t2⟩ := HH.out.2.1
    go_wp2_with fail
    refine (HRN.out _ HH.out.1.2).mono ?_
    rintro e w1 ⟨rfl, hb1⟩
    have HH := Lib.hid (HH.out.next hb1)
    clear hb1 a0 a1 a2 a3 a4 a5 a6 a7 a8 a9 a10 a11 t0 t1 t2
    obtain ⟨a0, a1, a2, a3, a4, a5, a6, a7, a8, a9, a10, a11⟩ := HH.out.1.1.cells
    obtain ⟨t0, t1, t2⟩ := HH.out.2.1
    go_wp2
    go_ret
    exact ⟨by rw [HV.out]; rfl, HH.out.1.2⟩
  rw [decide_eq_true h0] at HRN
  by_cases h1 : okR (-1) s.pe ∧ okR (-1) s.fl ∧ okR (-1) s.ac
  rotate_left
  · have HV : Hid (decide (docSn s) = false) := Lib.hid (decide_eq_false (fun k => h1 ⟨k.1.2.1, k.1.2.2.1, k.1.2.2.2.1⟩))
    rw [decide_eq_false h1] at HBV
    clear h0 h1 HBE HGV HDV HAG HAF
    go_enter Try.func46, Try.ntmps46
    obtain ⟨a0, a1, a2, a3, a4, a5, a6, a7, a8, a9, a10, a11⟩ := HH.out.1.cells
    go_wp2_with fail
    refine (HSO.out _ HH.out.2).mono ?_
    rintro e w1 ⟨rfl, hb1⟩
    have HH := Lib.hid (InBT.start (HH.out.next hb1) 70)
    clear hb1 a0 a1 a2 a3 a4 a5 a6 a7 a8 a9 a10 a11
    go_upto_region 2 with fail
    generalize w1.alloc (.cells #[.slice A2 s.pe.length c2, .slice A3 s.fl.length c3, .slice A4 s.ac.length c4] 70) = w2 at *
    generalize w1.heap.size = g at *
    obtain ⟨a0, a1, a2, a3, a4, a5, a6, a7, a8, a9, a10, a11⟩ := HH.out.1.1.cells
    obtain ⟨t0, t1, t2⟩ := HH.out.2.1
    go_wp2_with fail
    refine (HRN.out _ HH.out.1.2).mono ?_
    rintro e w1 ⟨rfl, hb1⟩
    have HH := Lib.hid (HH.out.next hb1)
    clear hb1 a0 a1 a2 a3 a4 a5 a6 a7 a8 a9 a10 a11 t0 t1 t2
    obtain ⟨a0, a1, a2, a3, a4, a5, a6, a7, a8, a9, a10, a11⟩ := HH.out.1.1.cells
    obtain ⟨t0, t1, t2⟩ := HH.out.2.1
    go_wp2_with fail
    refine (HBV.out _ HH.out.1.2).mono ?_
    rintro e w1 ⟨rfl, hb1⟩
    have HH := Lib.hid (HH.out.next hb1)
    clear hb1 a0 a1 a2 a3 a4 a5 a6 a7 a8 a9 a10 a11 t0 t1 t2
    obtain ⟨a0, a1, a2, a3, a4, a5, a6, a7, a8, a9, a10, a11⟩ := HH.out.1.1.cells
    obtain ⟨t0, t1, t2⟩ := HH.out.2.1
    go_wp2
    go_ret
    exact ⟨by rw [HV.out]; rfl, HH.out.1.2⟩
  rw [decide_eq_true h1] at HBV
  by_cases n0 : s.sent < 0
  · have HV : Hid (decide (docSn s) = false) := Lib.hid (decide_eq_false (fun h => by have := h.1.2.2.2.2.1; omega))
    have d0 : decide (s.sent < 0) = true := decide_eq_true n0
    clear h0 h1 n0 HBE HGV HDV HAG HAF
    go_enter Try.func46, Try.ntmps46
    obtain ⟨a0, a1, a2, a3, a4, a5, a6, a7, a8, a9, a10, a11⟩ := HH.out.1.cells
    go_wp2_with fail
    refine (HSO.out _ HH.out.2).mono ?_
    rintro e w1 ⟨rfl, hb1⟩
    have HH := Lib.hid (InBT.start (HH.out.next hb1) 70)
    clear hb1 a0 a1 a2 a3 a4 a5 a6 a7 a8 a9 a10 a11
    go_upto_region 2 with fail
    generalize w1.alloc (.cells #[.slice A2 s.pe.length c2, .slice A3 s.fl.length c3, .slice A4 s.ac.length c4] 70) = w2 at *
    generalize w1.heap.size = g at *
    obtain ⟨a0, a1, a2, a3, a4, a5, a6, a7, a8, a9, a10, a11⟩ := HH.out.1.1.cells
    obtain ⟨t0, t1, t2⟩ := HH.out.2.1
    go_wp2_with fail
    refine (HRN.out _ HH.out.1.2).mono ?_
    rintro e w1 ⟨rfl, hb1⟩
    have HH := Lib.hid (HH.out.next hb1)
    clear hb1 a0 a1 a2 a3 a4 a5 a6 a7 a8 a9 a10 a11 t0 t1 t2
    obtain ⟨a0, a1, a2, a3, a4, a5, a6, a7, a8, a9, a10, a11⟩ := HH.out.1.1.cells
    obtain ⟨t0, t1, t2⟩ := HH.out.2.1
    go_wp2_with fail
    refine (HBV.out _ HH.out.1.2).mono ?_
    rintro e w1 ⟨rfl, hb1⟩
    have HH := Lib.hid (HH.out.next hb1)
    clear hb1 a0 a1 a2 a3 a4 a5 a6 a7 a8 a9 a10 a11 t0 t1 t2
    obtain ⟨a0, a1, a2, a3, a4, a5, a6, a7, a8, a9, a10, a11⟩ := HH.out.1.1.cells
    obtain ⟨t0, t1, t2⟩ := HH.out.2.1
    go_wp2
    go_ret
    exact ⟨by rw [HV.out]; rfl, HH.out.1.2⟩
  have d0 : decide (s.sent < 0) = false := decide_eq_false n0
  by_cases n1 : s.rn.en < s.sent
  · have HV : Hid (decide (docSn s) = false) := Lib.hid (decide_eq_false (fun h => by have := h.1.2.2.2.2.1; omega))
    have d1 : decide (s.rn.en < s.sent) = true := decide_eq_true n1
    clear h0 h1 n0 n1 HBE HGV HDV HAG HAF
    go_enter Try.func46, Try.ntmps46
    obtain ⟨a0, a1, a2, a3, a4, a5, a6, a7, a8, a9, a10, a11⟩ := HH.out.1.cells
    go_wp2_with fail
    refine (HSO.out _ HH.out.2).mono ?_
    rintro e w1 ⟨rfl, hb1⟩
    have HH := Lib.hid (InBT.start (HH.out.next hb1) 70)
    clear hb1 a0 a1 a2 a3 a4 a5 a6 a7 a8 a9 a10 a11
    go_upto_region 2 with fail
    generalize w1.alloc (.cells #[.slice A2 s.pe.length c2, .slice A3 s.fl.length c3, .slice A4 s.ac.length c4] 70) = w2 at *
    generalize w1.heap.size = g at *
    obtain ⟨a0, a1, a2, a3, a4, a5, a6, a7, a8, a9, a10, a11⟩ := HH.out.1.1.cells
    obtain ⟨t0, t1, t2⟩ := HH.out.2.1
    go_wp2_with fail
    refine (HRN.out _ HH.out.1.2).mono ?_
    rintro e w1 ⟨rfl, hb1⟩
    have HH := Lib.hid (HH.out.next hb1)
    clear hb1 a0 a1 a2 a3 a4 a5 a6 a7 a8 a9 a10 a11 t0 t1 t2
    obtain ⟨a0, a1, a2, a3, a4, a5, a6, a7, a8, a9, a10, a11⟩ := HH.out.1.1.cells
    obtain ⟨t0, t1, t2⟩ := HH.out.2.1
    go_wp2_with fail
    refine (HBV.out _ HH.out.1.2).mono ?_
    rintro e w1 ⟨rfl, hb1⟩
    have HH := Lib.hid (HH.out.next hb1)
    clear hb1 a0 a1 a2 a3 a4 a5 a6 a7 a8 a9 a10 a11 t0 t1 t2
    obtain ⟨a0, a1, a2, a3, a4, a5, a6, a7, a8, a9, a10, a11⟩ := HH.out.1.1.cells
    obtain ⟨t0, t1, t2⟩ := HH.out.2.1
    go_wp2
    go_ret
    exact ⟨by rw [HV.out]; rfl, HH.out.1.2⟩
  have d1 : decide (s.rn.en < s.sent) = false := decide_eq_false n1
  by_cases n2 : s.code < 0
  · have HV : Hid (decide (docSn s) = false) := Lib.hid (decide_eq_false (fun h => by have := h.1.2.2.2.2.2.1; omega))
    have d2 : decide (s.code < 0) = true := decide_eq_true n2
    clear h0 h1 n0 n1 n2 HBE HGV HDV HAG HAF
    go_enter Try.func46, Try.ntmps46
    obtain ⟨a0, a1, a2, a3, a4, a5, a6, a7, a8, a9, a10, a11⟩ := HH.out.1.cells
    go_wp2_with fail
    refine (HSO.out _ HH.out.2).mono ?_
    rintro e w1 ⟨rfl, hb1⟩
    have HH := Lib.hid (InBT.start (HH.out.next hb1) 70)
    clear hb1 a0 a1 a2 a3 a4 a5 a6 a7 a8 a9 a10 a11
    go_upto_region 2 with fail
    generalize w1.alloc (.cells #[.slice A2 s.pe.length c2, .slice A3 s.fl.length c3, .slice A4 s.ac.length c4] 70) = w2 at *
    generalize w1.heap.size = g at *
    obtain ⟨a0, a1, a2, a3, a4, a5, a6, a7, a8, a9, a10, a11⟩ := HH.out.1.1.cells
    obtain ⟨t0, t1, t2⟩ := HH.out.2.1
    go_wp2_with fail
    refine (HRN.out _ HH.out.1.2).mono ?_
    rintro e w1 ⟨rfl, hb1⟩
    have HH := Lib.hid (HH.out.next hb1)
    clear hb1 a0 a1 a2 a3 a4 a5 a6 a7 a8 a9 a10 a11 t0 t1 t2
    obtain ⟨a0, a1, a2, a3, a4, a5, a6, a7, a8, a9, a10, a11⟩ := HH.out.1.1.cells
    obtain ⟨t0, t1, t2⟩ := HH.out.2.1
    go_wp2_with fail
    refine (HBV.out _ HH.out.1.2).mono ?_
    rintro e w1 ⟨rfl, hb1⟩
    have HH := Lib.hid (HH.out.next hb1)
    clear hb1 a0 a1 a2 a3 a4 a5 a6 a7 a8 a9 a10 a11 t0 t1 t2
    obtain ⟨a0, a1, a2, a3, a4, a5, a6, a7, a8, a9, a10, a11⟩ := HH.out.1.1.cells
    obtain ⟨t0, t1, t2⟩ := HH.out.2.1
    go_wp2
    go_ret
    exact ⟨by rw [HV.out]; rfl, HH.out.1.2⟩
  have d2 : decide (s.code < 0) = false := decide_eq_false n2
  by_cases n3 : 4611686018427387903 < s.code
  · have HV : Hid (decide (docSn s) = false) := Lib.hid (decide_eq_false (fun h => by have := h.1.2.2.2.2.2.1; omega))
    have d3 : decide (4611686018427387903 < s.code) = true := decide_eq_true n3
    clear h0 h1 n0 n1 n2 n3 HBE HGV HDV HAG HAF
    go_enter Try.func46, Try.ntmps46
    obtain ⟨a0, a1, a2, a3, a4, a5, a6, a7, a8, a9, a10, a11⟩ := HH.out.1.cells
    go_wp2_with fail
    refine (HSO.out _ HH.out.2).mono ?_
    rintro e w1 ⟨rfl, hb1⟩
    have HH := Lib.hid (InBT.start (HH.out.next hb1) 70)
    clear hb1 a0 a1 a2 a3 a4 a5 a6 a7 a8 a9 a10 a11
    go_upto_region 2 with fail
    generalize w1.alloc (.cells #[.slice A2 s.pe.length c2, .slice A3 s.fl.length c3, .slice A4 s.ac.length c4] 70) = w2 at *
    generalize w1.heap.size = g at *
    obtain ⟨a0, a1, a2, a3, a4, a5, a6, a7, a8, a9, a10, a11⟩ := HH.out.1.1.cells
    obtain ⟨t0, t1, t2⟩ := HH.out.2.1
    go_wp2_with fail
    refine (HRN.out _ HH.out.1.2).mono ?_
    rintro e w1 ⟨rfl, hb1⟩
    have HH := Lib.hid (HH.out.next hb1)
    clear hb1 a0 a1 a2 a3 a4 a5 a6 a7 a8 a9 a10 a11 t0 t1 t2
    obtain ⟨a0, a1, a2, a3, a4, a5, a6, a7, a8, a9, a10, a11⟩ := HH.out.1.1.cells
    obtain ⟨t0, t1, t2⟩ := HH.out.2.1
    go_wp2_with fail
    refine (HBV.out _ HH.out.1.2).mono ?_
    rintro e w1 ⟨rfl, hb1⟩
    have HH := Lib.hid (HH.out.next hb1)
    clear hb1 a0 a1 a2 a3 a4 a5 a6 a7 a8 a9 a10 a11 t0 t1 t2
    obtain ⟨a0, a1, a2, a3, a4, a5, a6, a7, a8, a9, a10, a11⟩ := HH.out.1.1.cells
    obtain ⟨t0, t1, t2⟩ := HH.out.2.1
    go_wp2
    go_ret
    exact ⟨by rw [HV.out]; rfl, HH.out.1.2⟩
  have d3 : decide (4611686018427387903 < s.code) = false := decide_eq_false n3
  by_cases n4 : s.fi < 0
  · have HV : Hid (decide (docSn s) = false) := Lib.hid (decide_eq_false (fun h => by have := h.1.2.2.2.2.2.2; omega))
    have d4 : decide (s.fi < 0) = true := decide_eq_true n4
    clear h0 h1 n0 n1 n2 n3 n4 HBE HGV HDV HAG HAF
    go_enter Try.func46, Try.ntmps46
    obtain ⟨a0, a1, a2, a3, a4, a5, a6, a7, a8, a9, a10, a11⟩ := HH.out.1.cells
    go_wp2_with fail
    refine (HSO.out _ HH.out.2).mono ?_
    rintro e w1 ⟨rfl, hb1⟩
    have HH := Lib.hid (InBT.start (HH.out.next hb1) 70)
    clear hb1 a0 a1 a2 a3 a4 a5 a6 a7 a8 a9 a10 a11
    go_upto_region 2 with fail
    generalize w1.alloc (.cells #[.slice A2 s.pe.length c2, .slice A3 s.fl.length c3, .slice A4 s.ac.length c4] 70) = w2 at *
    generalize w1.heap.size = g at *
    obtain ⟨a0, a1, a2, a3, a4, a5, a6, a7, a8, a9, a10, a11⟩ := HH.out.1.1.cells
    obtain ⟨t0, t1, t2⟩ := HH.out.2.1
    go_wp2_with fail
    refine (HRN.out _ HH.out.1.2).mono ?_
    rintro e w1 ⟨rfl, hb1⟩
    have HH := Lib.hid (HH.out.next hb1)
    clear hb1 a0 a1 a2 a3 a4 a5 a6 a7 a8 a9 a10 a11 t0 t1 t2
    obtain ⟨a0, a1, a2, a3, a4, a5, a6, a7, a8, a9, a10, a11⟩ := HH.out.1.1.cells
    obtain ⟨t0, t1, t2⟩ := HH.out.2.1
    go_wp2_with fail
    refine (HBV.out _ HH.out.1.2).mono ?_
    rintro e w1 ⟨rfl, hb1⟩
    have HH := Lib.hid (HH.out.next hb1)
    clear hb1 a0 a1 a2 a3 a4 a5 a6 a7 a8 a9 a10 a11 t0 t1 t2
    obtain ⟨a0, a1, a2, a3, a4, a5, a6, a7, a8, a9, a10, a11⟩ := HH.out.1.1.cells
    obtain ⟨t0, t1, t2⟩ := HH.out.2.1
    go_wp2
    go_ret
    exact ⟨by rw [HV.out]; rfl, HH.out.1.2⟩
  have d4 : decide (s.fi < 0) = false := decide_eq_false n4
  by_cases n5 : 3 < s.fi
  · have HV : Hid (decide (docSn s) = false) := Lib.hid (decide_eq_false (fun h => by have := h.1.2.2.2.2.2.2; omega))
    have d5 : decide (3 < s.fi) = true := decide_eq_true n5
    clear h0 h1 n0 n1 n2 n3 n4 n5 HBE HGV HDV HAG HAF
    go_enter Try.func46, Try.ntmps46
    obtain ⟨a0, a1, a2, a3, a4, a5, a6, a7, a8, a9, a10, a11⟩ := HH.out.1.cells
    go_wp2_with fail
    refine (HSO.out _ HH.out.2).mono ?_
    rintro e w1 ⟨rfl, hb1⟩
    have HH := Lib.hid (InBT.start (HH.out.next hb1) 70)
    clear hb1 a0 a1 a2 a3 a4 a5 a6 a7 a8 a9 a10 a11
    go_upto_region 2 with fail
    generalize w1.alloc (.cells #[.slice A2 s.pe.length c2, .slice A3 s.fl.length c3, .slice A4 s.ac.length c4] 70) = w2 at *
    generalize w1.heap.size = g at *
    obtain ⟨a0, a1, a2, a3, a4, a5, a6, a7, a8, a9, a10, a11⟩ := HH.out.1.1.cells
    obtain ⟨t0, t1, t2⟩ := HH.out.2.1
    go_wp2_with fail
    refine (HRN.out _ HH.out.1.2).mono ?_
    rintro e w1 ⟨rfl, hb1⟩
    have HH := Lib.hid (HH.out.next hb1)
    clear hb1 a0 a1 a2 a3 a4 a5 a6 a7 a8 a9 a10 a11 t0 t1 t2
    obtain ⟨a0, a1, a2, a3, a4, a5, a6, a7, a8, a9, a10, a11⟩ := HH.out.1.1.cells
    obtain ⟨t0, t1, t2⟩ := HH.out.2.1
    go_wp2_with fail
    refine (HBV.out _ HH.out.1.2).mono ?_
    rintro e w1 ⟨rfl, hb1⟩
    have HH := Lib.hid (HH.out.next hb1)
    clear hb1 a0 a1 a2 a3 a4 a5 a6 a7 a8 a9 a10 a11 t0 t1 t2
    obtain ⟨a0, a1, a2, a3, a4, a5, a6, a7, a8, a9, a10, a11⟩ := HH.out.1.1.cells
    obtain ⟨t0, t1, t2⟩ := HH.out.2.1
    go_wp2
    go_ret
    exact ⟨by rw [HV.out]; rfl, HH.out.1.2⟩
  have d5 : decide (3 < s.fi) = false := decide_eq_false n5
  have HF : Hid (fitS s) := Lib.hid ⟨h0, h1.1, h1.2.1, h1.2.2, ⟨Int.not_lt.1 n0, Int.not_lt.1 n1⟩, ⟨Int.not_lt.1 n2, Int.not_lt.1 n3⟩, Int.not_lt.1 n4, Int.not_lt.1 n5⟩
  have HDV := Lib.hid (HDV.out h1)
  have HAG := Lib.hid (HAG.out h1.2.2)
  have HAF := Lib.hid (HAF.out ⟨Int.not_lt.1 n4, Int.not_lt.1 n5⟩)
  clear h0 h1 n0 n1 n2 n3 n4 n5
  by_cases hst : s.st = 4 ∨ s.st = 5
  · have HD : Hid (docSn s ↔ rstS s) := Lib.hid ⟨fun k => by have h9 := k.2; rwa [if_pos hst] at h9, fun k => ⟨HF.out, by rw [if_pos hst]; exact k⟩⟩
    have HRS : Hid (rstS s ↔ (s.pe = [] ∧ s.fl = [] ∧ s.ac = []) ∧ s.rn.base = s.rn.en ∧ s.sent = s.rn.en ∧ s.fin = s.rn.en ∧ s.fi = 0) := Lib.hid ⟨fun ⟨k1, k2, k3, k4, k5, k6, k7⟩ => ⟨⟨k2, k3, k4⟩, k1, k7, k5.trans k7, k6⟩, fun ⟨⟨k2, k3, k4⟩, k1, k7, k5, k6⟩ => ⟨k1, k2, k3, k4, k5.trans k7.symm, k6, k7⟩⟩
    clear HDV HAG HAF HF
    by_cases h2 : s.pe = [] ∧ s.fl = [] ∧ s.ac = []
    · have HV : Hid (decide (docSn s) = decide (s.rn.base = s.rn.en ∧ s.sent = s.rn.en ∧ s.fin = s.rn.en ∧ s.fi = 0)) := Lib.hid (decide_eq_decide.2 (HD.out.trans (HRS.out.trans ⟨fun k => k.2, fun k => ⟨h2, k⟩⟩)))
      rw [decide_eq_true h2] at HBE
      clear h2 HD HRS
      have e4 : s.st = 4 ∨ s.st = 5 := hst
      clear hst
      by_cases h4 : s.st = 4
      all_goals rw [HV.out]
      all_goals clear HV
      all_goals generalize decide (s.rn.base = s.rn.en ∧ s.sent = s.rn.en ∧ s.fin = s.rn.en ∧ s.fi = 0) = bg at *
      · have s4 : (s.st == 4) = true := by simpa using h4
        clear e4 h4
        go_enter Try.func46, Try.ntmps46
        obtain ⟨a0, a1, a2, a3, a4, a5, a6, a7, a8, a9, a10, a11⟩ := HH.out.1.cells
        go_wp2_with fail
        refine (HSO.out _ HH.out.2).mono ?_
        rintro e w1 ⟨rfl, hb1⟩
        have HH := Lib.hid (InBT.start (HH.out.next hb1) 70)
        clear hb1 a0 a1 a2 a3 a4 a5 a6 a7 a8 a9 a10 a11
        go_upto_region 2 with fail
        generalize w1.alloc (.cells #[.slice A2 s.pe.length c2, .slice A3 s.fl.length c3, .slice A4 s.ac.length c4] 70) = w2 at *
        generalize w1.heap.size = g at *
        obtain ⟨a0, a1, a2, a3, a4, a5, a6, a7, a8, a9, a10, a11⟩ := HH.out.1.1.cells
        obtain ⟨t0, t1, t2⟩ := HH.out.2.1
        go_wp2_with fail
        refine (HRN.out _ HH.out.1.2).mono ?_
        rintro e w1 ⟨rfl, hb1⟩
        have HH := Lib.hid (HH.out.next hb1)
        clear hb1 a0 a1 a2 a3 a4 a5 a6 a7 a8 a9 a10 a11 t0 t1 t2
        obtain ⟨a0, a1, a2, a3, a4, a5, a6, a7, a8, a9, a10, a11⟩ := HH.out.1.1.cells
        obtain ⟨t0, t1, t2⟩ := HH.out.2.1
        go_wp2_with fail
        refine (HBV.out _ HH.out.1.2).mono ?_
        rintro e w1 ⟨rfl, hb1⟩
        have HH := Lib.hid (HH.out.next hb1)
        clear hb1 a0 a1 a2 a3 a4 a5 a6 a7 a8 a9 a10 a11 t0 t1 t2
        obtain ⟨a0, a1, a2, a3, a4, a5, a6, a7, a8, a9, a10, a11⟩ := HH.out.1.1.cells
        obtain ⟨t0, t1, t2⟩ := HH.out.2.1
        go_wp2_with fail
        refine (HBE.out _ HH.out.1.2).mono ?_
        rintro e w1 ⟨rfl, hb1⟩
        have HH := Lib.hid (HH.out.next hb1)
        clear hb1 a0 a1 a2 a3 a4 a5 a6 a7 a8 a9 a10 a11 t0 t1 t2
        obtain ⟨a0, a1, a2, a3, a4, a5, a6, a7, a8, a9, a10, a11⟩ := HH.out.1.1.cells
        obtain ⟨t0, t1, t2⟩ := HH.out.2.1
        go_wp2_with fail
        refine (HGV.out _ HH.out.1.2).mono ?_
        rintro e w1 ⟨rfl, hb1⟩
        have HH := Lib.hid (HH.out.next hb1)
        clear hb1 a0 a1 a2 a3 a4 a5 a6 a7 a8 a9 a10 a11 t0 t1 t2
        obtain ⟨a0, a1, a2, a3, a4, a5, a6, a7, a8, a9, a10, a11⟩ := HH.out.1.1.cells
        obtain ⟨t0, t1, t2⟩ := HH.out.2.1
        go_wp2
        go_ret
        exact ⟨rfl, HH.out.1.2⟩
      · have s4 : (s.st == 4) = false := by simpa using h4
        have s5 : (s.st == 5) = true := by simpa using e4.resolve_left h4
        clear e4 h4
        go_enter Try.func46, Try.ntmps46
        obtain ⟨a0, a1, a2, a3, a4, a5, a6, a7, a8, a9, a10, a11⟩ := HH.out.1.cells
        go_wp2_with fail
        refine (HSO.out _ HH.out.2).mono ?_
        rintro e w1 ⟨rfl, hb1⟩
        have HH := Lib.hid (InBT.start (HH.out.next hb1) 70)
        clear hb1 a0 a1 a2 a3 a4 a5 a6 a7 a8 a9 a10 a11
        go_upto_region 2 with fail
        generalize w1.alloc (.cells #[.slice A2 s.pe.length c2, .slice A3 s.fl.length c3, .slice A4 s.ac.length c4] 70) = w2 at *
        generalize w1.heap.size = g at *
        obtain ⟨a0, a1, a2, a3, a4, a5, a6, a7, a8, a9, a10, a11⟩ := HH.out.1.1.cells
        obtain ⟨t0, t1, t2⟩ := HH.out.2.1
        go_wp2_with fail
        refine (HRN.out _ HH.out.1.2).mono ?_
        rintro e w1 ⟨rfl, hb1⟩
        have HH := Lib.hid (HH.out.next hb1)
        clear hb1 a0 a1 a2 a3 a4 a5 a6 a7 a8 a9 a10 a11 t0 t1 t2
        obtain ⟨a0, a1, a2, a3, a4, a5, a6, a7, a8, a9, a10, a11⟩ := HH.out.1.1.cells
        obtain ⟨t0, t1, t2⟩ := HH.out.2.1
        go_wp2_with fail
        refine (HBV.out _ HH.out.1.2).mono ?_
        rintro e w1 ⟨rfl, hb1⟩
        have HH := Lib.hid (HH.out.next hb1)
        clear hb1 a0 a1 a2 a3 a4 a5 a6 a7 a8 a9 a10 a11 t0 t1 t2
        obtain ⟨a0, a1, a2, a3, a4, a5, a6, a7, a8, a9, a10, a11⟩ := HH.out.1.1.cells
        obtain ⟨t0, t1, t2⟩ := HH.out.2.1
        go_wp2_with fail
        refine (HBE.out _ HH.out.1.2).mono ?_
        rintro e w1 ⟨rfl, hb1⟩
        have HH := Lib.hid (HH.out.next hb1)
        clear hb1 a0 a1 a2 a3 a4 a5 a6 a7 a8 a9 a10 a11 t0 t1 t2
        obtain ⟨a0, a1, a2, a3, a4, a5, a6, a7, a8, a9, a10, a11⟩ := HH.out.1.1.cells
        obtain ⟨t0, t1, t2⟩ := HH.out.2.1
        go_wp2_with fail
        refine (HGV.out _ HH.out.1.2).mono ?_
        rintro e w1 ⟨rfl, hb1⟩
        have HH := Lib.hid (HH.out.next hb1)
        clear hb1 a0 a1 a2 a3 a4 a5 a6 a7 a8 a9 a10 a11 t0 t1 t2
        obtain ⟨a0, a1, a2, a3, a4, a5, a6, a7, a8, a9, a10, a11⟩ := HH.out.1.1.cells
        obtain ⟨t0, t1, t2⟩ := HH.out.2.1
        go_wp2
        go_ret
        exact ⟨rfl, HH.out.1.2⟩
    · have HV : Hid (decide (docSn s) = false) := Lib.hid (decide_eq_false fun k => h2 (HRS.out.1 (HD.out.1 k)).1)
      rw [decide_eq_false h2] at HBE
      clear h2 HD HRS HGV
      have e4 : s.st = 4 ∨ s.st = 5 := hst
      clear hst
      by_cases h4 : s.st = 4
      · have s4 : (s.st == 4) = true := by simpa using h4
        clear e4 h4
        go_enter Try.func46, Try.ntmps46
        obtain ⟨a0, a1, a2, a3, a4, a5, a6, a7, a8, a9, a10, a11⟩ := HH.out.1.cells
        go_wp2_with fail
        refine (HSO.out _ HH.out.2).mono ?_
        rintro e w1 ⟨rfl, hb1⟩
        have HH := Lib.hid (InBT.start (HH.out.next hb1) 70)
        clear hb1 a0 a1 a2 a3 a4 a5 a6 a7 a8 a9 a10 a11
        go_upto_region 2 with fail
        generalize w1.alloc (.cells #[.slice A2 s.pe.length c2, .slice A3 s.fl.length c3, .slice A4 s.ac.length c4] 70) = w2 at *
        generalize w1.heap.size = g at *
        obtain ⟨a0, a1, a2, a3, a4, a5, a6, a7, a8, a9, a10, a11⟩ := HH.out.1.1.cells
        obtain ⟨t0, t1, t2⟩ := HH.out.2.1
        go_wp2_with fail
        refine (HRN.out _ HH.out.1.2).mono ?_
        rintro e w1 ⟨rfl, hb1⟩
        have HH := Lib.hid (HH.out.next hb1)
        clear hb1 a0 a1 a2 a3 a4 a5 a6 a7 a8 a9 a10 a11 t0 t1 t2
        obtain ⟨a0, a1, a2, a3, a4, a5, a6, a7, a8, a9, a10, a11⟩ := HH.out.1.1.cells
        obtain ⟨t0, t1, t2⟩ := HH.out.2.1
        go_wp2_with fail
        refine (HBV.out _ HH.out.1.2).mono ?_
        rintro e w1 ⟨rfl, hb1⟩
        have HH := Lib.hid (HH.out.next hb1)
        clear hb1 a0 a1 a2 a3 a4 a5 a6 a7 a8 a9 a10 a11 t0 t1 t2
        obtain ⟨a0, a1, a2, a3, a4, a5, a6, a7, a8, a9, a10, a11⟩ := HH.out.1.1.cells
        obtain ⟨t0, t1, t2⟩ := HH.out.2.1
        go_wp2_with fail
        refine (HBE.out _ HH.out.1.2).mono ?_
        rintro e w1 ⟨rfl, hb1⟩
        have HH := Lib.hid (HH.out.next hb1)
        clear hb1 a0 a1 a2 a3 a4 a5 a6 a7 a8 a9 a10 a11 t0 t1 t2
        obtain ⟨a0, a1, a2, a3, a4, a5, a6, a7, a8, a9, a10, a11⟩ := HH.out.1.1.cells
        obtain ⟨t0, t1, t2⟩ := HH.out.2.1
        go_wp2
        go_ret
        exact ⟨by rw [HV.out]; rfl, HH.out.1.2⟩
      · have s4 : (s.st == 4) = false := by simpa using h4
        have s5 : (s.st == 5) = true := by simpa using e4.resolve_left h4
        clear e4 h4
        go_enter Try.func46, Try.ntmps46
        obtain ⟨a0, a1, a2, a3, a4, a5, a6, a7, a8, a9, a10, a11⟩ := HH.out.1.cells
        go_wp2_with fail
        refine (HSO.out _ HH.out.2).mono ?_
        rintro e w1 ⟨rfl, hb1⟩
        have HH := Lib.hid (InBT.start (HH.out.next hb1) 70)
        clear hb1 a0 a1 a2 a3 a4 a5 a6 a7 a8 a9 a10 a11
        go_upto_region 2 with fail
        generalize w1.alloc (.cells #[.slice A2 s.pe.length c2, .slice A3 s.fl.length c3, .slice A4 s.ac.length c4] 70) = w2 at *
        generalize w1.heap.size = g at *
        obtain ⟨a0, a1, a2, a3, a4, a5, a6, a7, a8, a9, a10, a11⟩ := HH.out.1.1.cells
        obtain ⟨t0, t1, t2⟩ := HH.out.2.1
        go_wp2_with fail
        refine (HRN.out _ HH.out.1.2).mono ?_
        rintro e w1 ⟨rfl, hb1⟩
        have HH := Lib.hid (HH.out.next hb1)
        clear hb1 a0 a1 a2 a3 a4 a5 a6 a7 a8 a9 a10 a11 t0 t1 t2
        obtain ⟨a0, a1, a2, a3, a4, a5, a6, a7, a8, a9, a10, a11⟩ := HH.out.1.1.cells
        obtain ⟨t0, t1, t2⟩ := HH.out.2.1
        go_wp2_with fail
        refine (HBV.out _ HH.out.1.2).mono ?_
        rintro e w1 ⟨rfl, hb1⟩
        have HH := Lib.hid (HH.out.next hb1)
        clear hb1 a0 a1 a2 a3 a4 a5 a6 a7 a8 a9 a10 a11 t0 t1 t2
        obtain ⟨a0, a1, a2, a3, a4, a5, a6, a7, a8, a9, a10, a11⟩ := HH.out.1.1.cells
        obtain ⟨t0, t1, t2⟩ := HH.out.2.1
        go_wp2_with fail
        refine (HBE.out _ HH.out.1.2).mono ?_
        rintro e w1 ⟨rfl, hb1⟩
        have HH := Lib.hid (HH.out.next hb1)
        clear hb1 a0 a1 a2 a3 a4 a5 a6 a7 a8 a9 a10 a11 t0 t1 t2
        obtain ⟨a0, a1, a2, a3, a4, a5, a6, a7, a8, a9, a10, a11⟩ := HH.out.1.1.cells
        obtain ⟨t0, t1, t2⟩ := HH.out.2.1
        go_wp2
        go_ret
        exact ⟨by rw [HV.out]; rfl, HH.out.1.2⟩
  have s4 : (s.st == 4) = false := by simpa using fun h => hst (.inl h)
  have s5 : (s.st == 5) = false := by simpa using fun h => hst (.inr h)
  have HD : Hid (docSn s ↔ divS s ∧ s.code = 0 ∧ agrS s ∧ afnS s) := Lib.hid (by
    have h9 : docSn s ↔ listS s ∧ endS s := ⟨fun k => by have h9 := k.2; rwa [if_neg hst] at h9, fun k => ⟨HF.out, by rw [if_neg hst]; exact k⟩⟩
    rw [h9, ← divS_list HF.out, ← agr_end HF.out])
  clear hst HF HBE HGV
  by_cases h2 : s.code = 0
  rotate_left
  · have HV : Hid (decide (docSn s) = false) := Lib.hid (decide_eq_false fun k => h2 (HD.out.1 k).2.1)
    have s6 : (s.code == 0) = false := by simpa using h2
    clear h2 HD HDV HAG HAF
    go_enter Try.func46, Try.ntmps46
    obtain ⟨a0, a1, a2, a3, a4, a5, a6, a7, a8, a9, a10, a11⟩ := HH.out.1.cells
    go_wp2_with fail
    refine (HSO.out _ HH.out.2).mono ?_
    rintro e w1 ⟨rfl, hb1⟩
    have HH := Lib.hid (InBT.start (HH.out.next hb1) 70)
    clear hb1 a0 a1 a2 a3 a4 a5 a6 a7 a8 a9 a10 a11
    go_upto_region 2 with fail
    generalize w1.alloc (.cells #[.slice A2 s.pe.length c2, .slice A3 s.fl.length c3, .slice A4 s.ac.length c4] 70) = w2 at *
    generalize w1.heap.size = g at *
    obtain ⟨a0, a1, a2, a3, a4, a5, a6, a7, a8, a9, a10, a11⟩ := HH.out.1.1.cells
    obtain ⟨t0, t1, t2⟩ := HH.out.2.1
    go_wp2_with fail
    refine (HRN.out _ HH.out.1.2).mono ?_
    rintro e w1 ⟨rfl, hb1⟩
    have HH := Lib.hid (HH.out.next hb1)
    clear hb1 a0 a1 a2 a3 a4 a5 a6 a7 a8 a9 a10 a11 t0 t1 t2
    obtain ⟨a0, a1, a2, a3, a4, a5, a6, a7, a8, a9, a10, a11⟩ := HH.out.1.1.cells
    obtain ⟨t0, t1, t2⟩ := HH.out.2.1
    go_wp2_with fail
    refine (HBV.out _ HH.out.1.2).mono ?_
    rintro e w1 ⟨rfl, hb1⟩
    have HH := Lib.hid (HH.out.next hb1)
    clear hb1 a0 a1 a2 a3 a4 a5 a6 a7 a8 a9 a10 a11 t0 t1 t2
    obtain ⟨a0, a1, a2, a3, a4, a5, a6, a7, a8, a9, a10, a11⟩ := HH.out.1.1.cells
    obtain ⟨t0, t1, t2⟩ := HH.out.2.1
    go_wp2
    go_ret
    exact ⟨by rw [HV.out]; rfl, HH.out.1.2⟩
  have s6 : (s.code == 0) = true := by simpa using h2
  by_cases h3 : divS s
  rotate_left
  · have HV : Hid (decide (docSn s) = false) := Lib.hid (decide_eq_false fun k => h3 (HD.out.1 k).1)
    rw [decide_eq_false h3] at HDV
    clear h2 h3 HD HAG HAF
    go_enter Try.func46, Try.ntmps46
    obtain ⟨a0, a1, a2, a3, a4, a5, a6, a7, a8, a9, a10, a11⟩ := HH.out.1.cells
    go_wp2_with fail
    refine (HSO.out _ HH.out.2).mono ?_
    rintro e w1 ⟨rfl, hb1⟩
    have HH := Lib.hid (InBT.start (HH.out.next hb1) 70)
    clear hb1 a0 a1 a2 a3 a4 a5 a6 a7 a8 a9 a10 a11
    go_upto_region 2 with fail
    generalize w1.alloc (.cells #[.slice A2 s.pe.length c2, .slice A3 s.fl.length c3, .slice A4 s.ac.length c4] 70) = w2 at *
    generalize w1.heap.size = g at *
    obtain ⟨a0, a1, a2, a3, a4, a5, a6, a7, a8, a9, a10, a11⟩ := HH.out.1.1.cells
    obtain ⟨t0, t1, t2⟩ := HH.out.2.1
    go_wp2_with fail
    refine (HRN.out _ HH.out.1.2).mono ?_
    rintro e w1 ⟨rfl, hb1⟩
    have HH := Lib.hid (HH.out.next hb1)
    clear hb1 a0 a1 a2 a3 a4 a5 a6 a7 a8 a9 a10 a11 t0 t1 t2
    obtain ⟨a0, a1, a2, a3, a4, a5, a6, a7, a8, a9, a10, a11⟩ := HH.out.1.1.cells
    obtain ⟨t0, t1, t2⟩ := HH.out.2.1
    go_wp2_with fail
    refine (HBV.out _ HH.out.1.2).mono ?_
    rintro e w1 ⟨rfl, hb1⟩
    have HH := Lib.hid (HH.out.next hb1)
    clear hb1 a0 a1 a2 a3 a4 a5 a6 a7 a8 a9 a10 a11 t0 t1 t2
    obtain ⟨a0, a1, a2, a3, a4, a5, a6, a7, a8, a9, a10, a11⟩ := HH.out.1.1.cells
    obtain ⟨t0, t1, t2⟩ := HH.out.2.1
    go_wp2_with fail
    refine (HDV.out _ HH.out.1.2).mono ?_
    rintro e w1 ⟨rfl, hb1⟩
    have HH := Lib.hid (HH.out.next hb1)
    clear hb1 a0 a1 a2 a3 a4 a5 a6 a7 a8 a9 a10 a11 t0 t1 t2
    obtain ⟨a0, a1, a2, a3, a4, a5, a6, a7, a8, a9, a10, a11⟩ := HH.out.1.1.cells
    obtain ⟨t0, t1, t2⟩ := HH.out.2.1
    go_wp2
    go_ret
    exact ⟨by rw [HV.out]; rfl, HH.out.1.2⟩
  rw [decide_eq_true h3] at HDV
  by_cases h4 : agrS s
  rotate_left
  · have HV : Hid (decide (docSn s) = false) := Lib.hid (decide_eq_false fun k => h4 (HD.out.1 k).2.2.1)
    rw [decide_eq_false h4] at HAG
    clear h2 h3 h4 HD HAF
    go_enter Try.func46, Try.ntmps46
    obtain ⟨a0, a1, a2, a3, a4, a5, a6, a7, a8, a9, a10, a11⟩ := HH.out.1.cells
    go_wp2_with fail
    refine (HSO.out _ HH.out.2).mono ?_
    rintro e w1 ⟨rfl, hb1⟩
    have HH := Lib.hid (InBT.start (HH.out.next hb1) 70)
    clear hb1 a0 a1 a2 a3 a4 a5 a6 a7 a8 a9 a10 a11
    go_upto_region 2 with fail
    generalize w1.alloc (.cells #[.slice A2 s.pe.length c2, .slice A3 s.fl.length c3, .slice A4 s.ac.length c4] 70) = w2 at *
    generalize w1.heap.size = g at *
    obtain ⟨a0, a1, a2, a3, a4, a5, a6, a7, a8, a9, a10, a11⟩ := HH.out.1.1.cells
    obtain ⟨t0, t1, t2⟩ := HH.out.2.1
    go_wp2_with fail
    refine (HRN.out _ HH.out.1.2).mono ?_
    rintro e w1 ⟨rfl, hb1⟩
    have HH := Lib.hid (HH.out.next hb1)
    clear hb1 a0 a1 a2 a3 a4 a5 a6 a7 a8 a9 a10 a11 t0 t1 t2
    obtain ⟨a0, a1, a2, a3, a4, a5, a6, a7, a8, a9, a10, a11⟩ := HH.out.1.1.cells
    obtain ⟨t0, t1, t2⟩ := HH.out.2.1
    go_wp2_with fail
    refine (HBV.out _ HH.out.1.2).mono ?_
    rintro e w1 ⟨rfl, hb1⟩
    have HH := Lib.hid (HH.out.next hb1)
    clear hb1 a0 a1 a2 a3 a4 a5 a6 a7 a8 a9 a10 a11 t0 t1 t2
    obtain ⟨a0, a1, a2, a3, a4, a5, a6, a7, a8, a9, a10, a11⟩ := HH.out.1.1.cells
    obtain ⟨t0, t1, t2⟩ := HH.out.2.1
    go_wp2_with fail
    refine (HDV.out _ HH.out.1.2).mono ?_
    rintro e w1 ⟨rfl, hb1⟩
    have HH := Lib.hid (HH.out.next hb1)
    clear hb1 a0 a1 a2 a3 a4 a5 a6 a7 a8 a9 a10 a11 t0 t1 t2
    obtain ⟨a0, a1, a2, a3, a4, a5, a6, a7, a8, a9, a10, a11⟩ := HH.out.1.1.cells
    obtain ⟨t0, t1, t2⟩ := HH.out.2.1
    go_wp2_with fail
    refine (HAG.out _ HH.out.1.2).mono ?_
    rintro e w1 ⟨rfl, hb1⟩
    have HH := Lib.hid (HH.out.next hb1)
    clear hb1 a0 a1 a2 a3 a4 a5 a6 a7 a8 a9 a10 a11 t0 t1 t2
    obtain ⟨a0, a1, a2, a3, a4, a5, a6, a7, a8, a9, a10, a11⟩ := HH.out.1.1.cells
    obtain ⟨t0, t1, t2⟩ := HH.out.2.1
    go_wp2
    go_ret
    exact ⟨by rw [HV.out]; rfl, HH.out.1.2⟩
  rw [decide_eq_true h4] at HAG
  have HV : Hid (decide (docSn s) = decide (afnS s)) := Lib.hid (decide_eq_decide.2 (HD.out.trans ⟨fun k => k.2.2.2, fun k => ⟨h3, h2, h4, k⟩⟩))
  rw [HV.out]
  clear HV h2 h3 h4 HD
  generalize decide (afnS s) = bg at *
  go_enter Try.func46, Try.ntmps46
  obtain ⟨a0, a1, a2, a3, a4, a5, a6, a7, a8, a9, a10, a11⟩ := HH.out.1.cells
  go_wp2_with fail
  refine (HSO.out _ HH.out.2).mono ?_
  rintro e w1 ⟨rfl, hb1⟩
  have HH := Lib.hid (InBT.start (HH.out.next hb1) 70)
  clear hb1 a0 a1 a2 a3 a4 a5 a6 a7 a8 a9 a10 a11
  go_upto_region 2 with fail
  generalize w1.alloc (.cells #[.slice A2 s.pe.length c2, .slice A3 s.fl.length c3, .slice A4 s.ac.length c4] 70) = w2 at *
  generalize w1.heap.size = g at *
  obtain ⟨a0, a1, a2, a3, a4, a5, a6, a7, a8, a9, a10, a11⟩ := HH.out.1.1.cells
  obtain ⟨t0, t1, t2⟩ := HH.out.2.1
  go_wp2_with fail
  refine (HRN.out _ HH.out.1.2).mono ?_
  rintro e w1 ⟨rfl, hb1⟩
  have HH := Lib.hid (HH.out.next hb1)
  clear hb1 a0 a1 a2 a3 a4 a5 a6 a7 a8 a9 a10 a11 t0 t1 t2
  obtain ⟨a0, a1, a2, a3, a4, a5, a6, a7, a8, a9, a10, a11⟩ := HH.out.1.1.cells
  obtain ⟨t0, t1, t2⟩ := HH.out.2.1
  go_wp2_with fail
  refine (HBV.out _ HH.out.1.2).mono ?_
  rintro e w1 ⟨rfl, hb1⟩
  have HH := Lib.hid (HH.out.next hb1)
  clear hb1 a0 a1 a2 a3 a4 a5 a6 a7 a8 a9 a10 a11 t0 t1 t2
  obtain ⟨a0, a1, a2, a3, a4, a5, a6, a7, a8, a9, a10, a11⟩ := HH.out.1.1.cells
  obtain ⟨t0, t1, t2⟩ := HH.out.2.1
  go_wp2_with fail
  refine (HDV.out _ HH.out.1.2).mono ?_
  rintro e w1 ⟨rfl, hb1⟩
  have HH := Lib.hid (HH.out.next hb1)
  clear hb1 a0 a1 a2 a3 a4 a5 a6 a7 a8 a9 a10 a11 t0 t1 t2
  obtain ⟨a0, a1, a2, a3, a4, a5, a6, a7, a8, a9, a10, a11⟩ := HH.out.1.1.cells
  obtain ⟨t0, t1, t2⟩ := HH.out.2.1
  go_wp2_with fail
  refine (HAG.out _ HH.out.1.2).mono ?_
  rintro e w1 ⟨rfl, hb1⟩
  have HH := Lib.hid (HH.out.next hb1)
  clear hb1 a0 a1 a2 a3 a4 a5 a6 a7 a8 a9 a10 a11 t0 t1 t2
  obtain ⟨a0, a1, a2, a3, a4, a5, a6, a7, a8, a9, a10, a11⟩ := HH.out.1.1.cells
  obtain ⟨t0, t1, t2⟩ := HH.out.2.1
  go_wp2_with fail
  refine (HAF.out _ HH.out.1.2).mono ?_
  rintro e w1 ⟨rfl, hb1⟩
  have HH := Lib.hid (HH.out.next hb1)
  clear hb1 a0 a1 a2 a3 a4 a5 a6 a7 a8 a9 a10 a11 t0 t1 t2
  obtain ⟨a0, a1, a2, a3, a4, a5, a6, a7, a8, a9, a10, a11⟩ := HH.out.1.1.cells
  obtain ⟨t0, t1, t2⟩ := HH.out.2.1
  go_wp2
  go_ret
  exact ⟨rfl, HH.out.1.2⟩
end Go.Proofs.Ytjohbfdifdjldac

namespace Go.Proofs.Ytjohbfdifdjldac.Num

/-- The store's 64 cells. -/
def padR (cs : List Int) : List Int := cs ++ List.replicate (64 - cs.length) 0
theorem padR_len {cs : List Int} (h : cs.length ≤ 64) : (padR cs).length = 64 := by unfold padR; simp; omega
theorem putR_app {sz e : Int} (d : ByteArray) {cs : List Int} (zs : List Int) (hs : 1 ≤ sz) (hl : (cs.length : Int) = sz) (k : Nat) : putR sz e d (cs ++ zs) k = putR sz e d cs k ++ zs := by
  induction k with
  | zero => rfl
  | succ k ih =>
    have h1 := (atR_lt hs (e + k)).1
    have h2 := putR_len sz e d cs k
    show (putR sz e d (cs ++ zs) k).set _ _ = (putR sz e d cs k).set _ _ ++ zs
    rw [ih, List.set_append_left _ _ (by omega)]
theorem zerR_app {sz e : Int} {cs : List Int} (zs : List Int) (hs : 1 ≤ sz) (hl : (cs.length : Int) = sz) (k : Nat) : zerR sz e (cs ++ zs) k = zerR sz e cs k ++ zs := by
  induction k with
  | zero => rfl
  | succ k ih =>
    have h1 := (atR_lt hs (e + k)).1
    have h2 := zerR_len sz e cs k
    show (zerR sz e (cs ++ zs) k).set _ _ = (zerR sz e cs k).set _ _ ++ zs
    rw [ih, List.set_append_left _ _ (by omega)]
theorem putR_pad {sz e : Int} (d : ByteArray) {cs : List Int} (hs : 1 ≤ sz) (hl : (cs.length : Int) = sz) (k : Nat) : (putR sz e d (padR cs) k).take cs.length = putR sz e d cs k := by
  have h2 := putR_len sz e d cs k
  unfold padR
  rw [putR_app d _ hs hl k, List.take_append_of_le_length (by omega), List.take_of_length_le (by omega)]
theorem zerR_pad {sz e : Int} {cs : List Int} (hs : 1 ≤ sz) (hl : (cs.length : Int) = sz) (k : Nat) : (zerR sz e (padR cs) k).take cs.length = zerR sz e cs k := by
  have h2 := zerR_len sz e cs k
  unfold padR
  rw [zerR_app _ hs hl k, List.take_append_of_le_length (by omega), List.take_of_length_le (by omega)]
theorem padR_at {cs : List Int} (k : Nat) (hk : k < cs.length) : (padR cs).getD k 0 = cs.getD k 0 := by
  unfold padR
  simp [List.getD_eq_getElem?_getD, List.getElem?_append_left hk]
theorem peekL_pad {sz o : Int} {cs : List Int} (hs : 1 ≤ sz) (hl : (cs.length : Int) = sz) (k : Nat) : peekL sz o (padR cs) k = peekL sz o cs k :=
  peekL_congr k fun j _ => padR_at _ (by have := (atR_lt hs (o + j)).1; omega)
end Go.Proofs.Ytjohbfdifdjldac.Num

namespace Go.Proofs.Ytjohbfdifdjldac
open Go.RowKit Go.Deep Go.Proofs.Ytjohbfdifdjldac.Num

set_option maxRecDepth 100000 in
/-- An append of ints to a slice of the call's own. -/
theorem wpList_append_ints {ops : Array Oper} {rest : List Oper} {o : Oper} {a : Act} {Q : Exit → Act → World → Prop} (W : World) (hgd : o.guard = none) (s x : Operand)
    (ho : o.op = .call { callee := .builtin .append, args := #[s, x], argTypes := #[22, 22] })
    (base : Nat) (v : Value) (l : List Int) (hs : a.eval s = v) (hown : OwnI W base v l)
    (b off m c B : Nat) (r : List Int) (hx : a.eval x = .slice (some ⟨b, off, none⟩) m c) (hm : r.length = m) (hr : Ints W B (some ⟨b, off, none⟩) r)
    (hlen : l.length + m ≤ 1000000000000) (hbase : base ≤ W.heap.size)
    (h : ∀ v' w', OwnI w' base v' (l ++ r) → Below base W w' → wpList Try.prog ops Q rest (a.put o.dst v') w') : wpList Try.prog ops Q (o :: rest) a W := by
  obtain ⟨i0, hi, hz0, hz1, hz2⟩ := info_parts infoI
  subst hm
  refine wpList_append_own W hgd s x 22 ho base 3 i0 (.int .i64 0) 1 8 Try.underlying22 hi hz0 hz1 hz2 rfl (by decide) v l.length (valsI l) hs hown ⟨b, off, none⟩ r.length c (valsI r) hx (by rw [valsI_len]; omega) ?_ ?_ (by unfold maxLen; omega) (by omega) hbase ?_
  · intro j u hu
    have hj : j < r.length := by
      have := (List.getElem?_eq_some_iff.1 hu).1
      simpa [valsI] using this
    obtain ⟨b2, off2, e, _, hc⟩ := hr j hj
    injection e with e
    injection e with e1 e2
    subst e1 e2
    have e3 : (⟨b, off, none⟩ : Addr).add j = ⟨b, off + j, none⟩ := by simp [Addr.add]
    rw [e3, hc]
    rw [← hu]
    simp only [valsI, List.getElem?_map, List.getElem?_eq_getElem hj, Option.map_some]
  · intro u hu
    simp only [valsI, List.mem_map] at hu
    obtain ⟨q, _, rfl⟩ := hu
    rfl
  · intro v' w' h1 h2 _
    refine h v' w' ?_ ((Below.refl _ _).grown h2 hbase (fun k hk => (World.ownsRow.lt hown k hk).1))
    have e : valsI (l ++ r) = valsI l ++ valsI r := by simp [valsI]
    unfold OwnI
    rw [e, List.length_append]
    exact h1

theorem eqi_nil (A : Option Addr) (n c : Nat) (w : World) : (binOp .eql 22 (.slice A n c) (.slice none 0 0)).run Try.prog w = .ok (.bool A.isNone) w := by
  simp [binOp, run_equal_slice_nil w 22 3 A n c Try.underlying22]

set_option maxRecDepth 100000 in
/-- slices.Clone -/
theorem iclonei (l : List Int) (A : Option Addr) (cap B : Nat) (w : World) (hB : B ≤ w.heap.size) (hr : Ints w B A l) (hn : l.length ≤ 1000000000) :
    Calls Try.prog 84 #[.slice A l.length cap] w fun e w' => ∃ v, e = .returned v ∧ OwnI w' w.heap.size v l ∧ Below w.heap.size w w' := by
  cases A with
  | none =>
    obtain rfl : l = [] := by
      cases l with
      | nil => rfl
      | cons x l => obtain ⟨b, off, hA, _⟩ := hr 0 (by simp); cases hA
    clear hr
    have hq := fun W => eqi_nil none 0 cap W
    simp only [Option.isNone] at hq
    go_enter Try.func84, Try.ntmps84
    go_wp2
    go_ret
    exact ⟨_, rfl, OwnI.empty, Below.refl _ _⟩
  | some x =>
    by_cases h0 : l = []
    · subst h0
      clear hr
      have hq := fun W => eqi_nil (some x) 0 cap W
      simp only [Option.isNone] at hq
      have HO := Lib.hid (OwnI.lit w w.heap.size 0 #[] (Nat.le_refl _) (by decide) rfl)
      have HB := Lib.hid ((Below.refl w.heap.size w).alloc (Nat.le_refl _) (.cells #[] 3))
      go_enter Try.func84, Try.ntmps84
      go_wp2_with (at_builtin; refine wpList_append_no _ rfl _ _ rfl _ (some x) 0 0 cap rfl (Nat.le_refl _) rfl ?_)
      go_ret
      exact ⟨_, rfl, HO.out, HB.out⟩
    · obtain ⟨b, off, hA, hb, h1⟩ := hr 0 (by cases l with | nil => exact absurd rfl h0 | cons x l => exact Nat.zero_lt_succ _)
      injection hA with hA
      subst hA
      have HR := Lib.hid (hr.keep (w' := w.alloc (.cells #[] 3)) fun k hk => heap_alloc_old w _ (by omega))
      have HO := Lib.hid (OwnI.lit w w.heap.size 0 #[] (Nat.le_refl _) (by decide) rfl)
      have HB := Lib.hid ((Below.refl w.heap.size w).alloc (Nat.le_refl _) (.cells #[] 3))
      have hq := fun W => eqi_nil (some ⟨b, off, none⟩) l.length cap W
      simp only [Option.isNone] at hq
      clear h1 hr
      go_enter Try.func84, Try.ntmps84
      go_wp2_with (at_builtin; refine wpList_append_ints _ rfl _ _ rfl w.heap.size _ [] rfl HO.out b off l.length cap B l rfl rfl HR.out (by simp; omega) (by simp) ?_; intro v' w' hown' hbel)
      go_ret
      exact ⟨_, rfl, hown', HB.out.trans hbel⟩

set_option maxRecDepth 100000 in
set_option maxHeartbeats 1000000 in
/-- impl.cloneRing -/
theorem iclonern (r : Rn) (A : Option Addr) (cap B : Nat) (w : World) (hB : B ≤ w.heap.size) (hr : Ints w B A r.cs) (hn : r.cs.length ≤ 1000000000) :
    Calls Try.prog 63 #[rnV r (.slice A r.cs.length cap)] w fun e w' => ∃ v, e = .returned (rnV r v) ∧ OwnK w' w.heap.size v r.cs ∧ Below w.heap.size w w' := by
  have HH := Lib.hid (IrN.start w r (.slice A r.cs.length cap))
  have HCL : Hid (∀ W, Below w.heap.size w W → Calls Try.prog 84 #[.slice A r.cs.length cap] W fun e w' => ∃ v, e = .returned v ∧ OwnI w' W.heap.size v r.cs ∧ Below W.heap.size W w') := Lib.hid fun W h => iclonei r.cs A cap B W (Nat.le_trans hB h.size) (hr.below hB h) hn
  clear hr hn
  go_enter Try.func63, Try.ntmps63
  go_upto_region 1 with fail
  generalize (w.alloc (.cells (rnC r.size r.base r.en (.slice A r.cs.length cap)) 32)).alloc (.cells (rnC 0 0 0 (.slice none 0 0)) 32) = w2 at *
  obtain ⟨a0, a1, a2, a3⟩ := HH.out.b.cells
  have af := HH.out.b.free
  go_wp2_with fail
  refine (HCL.out _ HH.out.bl).mono ?_
  rintro e w3 ⟨v, rfl, ho, hb⟩
  have HH3 := Lib.hid (HH.out.next hb)
  obtain ⟨A3, c3, rfl, _, _⟩ := ho.ints
  have HO3 : Hid (OwnK w3 (w.heap.size + 2) (.slice A3 r.cs.length c3) r.cs) := Lib.hid (ho.k.weaken HH.out.o.lt)
  clear ho hb a0 a1 a2 a3 af HH HCL
  obtain ⟨a0, a1, a2, a3⟩ := HH3.out.b.cells
  have af := HH3.out.b.free
  go_upto_region 2 with fail
  have HH4 := Lib.hid (HH3.out.put3 r.cs (.slice A3 r.cs.length c3))
  have HO4 := Lib.hid (HO3.out.apart w.heap.size 3 (.slice A3 r.cs.length c3) (by omega))
  clear a0 a1 a2 a3 af HH3 HO3
  generalize w3.setCell ⟨w.heap.size, 3, none⟩ (.slice A3 r.cs.length c3) = w4 at *
  obtain ⟨a0, a1, a2, a3⟩ := HH4.out.b.cells
  obtain ⟨q0, q1, q2, q3⟩ := HH4.out.o.cells
  have qf := HH4.out.o.free
  go_wp2
  have X := HH4.out.out r.size r.base r.en _ r.cs HO4.out
  refine bodyPost_ret (results_cell_row rfl _ _ (w.heap.size + 1) _ _ _ _ rfl X.1 Try.underlying32 rfl (by kernel_rfl)) rfl ?_
  exact ⟨_, rfl, X.2.1, X.2.2⟩

/-- A store's cells: its mutex's, its size and 64 cells. -/
def stC (u sz : Int) (l : List Int) : Array Value := ((Value.int .i32 u) :: (Value.int .u32 0) :: (Value.int .i64 sz) :: valsI l).toArray
theorem stC_size (u sz : Int) (l : List Int) : (stC u sz l).size = l.length + 3 := by simp [stC, valsI_len]
theorem StM.copied {u sz : Int} (r : List Int) : ((stC u sz (List.replicate 64 0)).toList.take 3 ++ valsI r ++ (stC u sz (List.replicate 64 0)).toList.drop (3 + (valsI r).length)).toArray = stC u sz (padR r) := by
  have e : 3 + (valsI r).length = ((valsI r).length + 1 + 1 + 1) := by omega
  have e2 : ∀ n, (valsI (List.replicate 64 0)).drop n = valsI (List.replicate (64 - n) 0) := fun n => by
    unfold valsI
    rw [← List.map_drop, List.drop_replicate]
  unfold stC padR
  rw [e, List.take_succ_cons, List.take_succ_cons, List.take_succ_cons, List.take_zero, List.drop_succ_cons, List.drop_succ_cons, List.drop_succ_cons, e2, valsI_len]
  simp only [valsI, List.map_append, List.cons_append, List.nil_append]

end Go.Proofs.Ytjohbfdifdjldac

namespace Go.Proofs.Ytjohbfdifdjldac
open Go.RowKit Go.Deep Go.Proofs.Ytjohbfdifdjldac.Num

theorem eql_nil (A : Option Addr) (n c : Nat) (w : World) : (binOp .eql 33 (.slice A n c) (.slice none 0 0)).run Try.prog w = .ok (.bool A.isNone) w := by
  simp [binOp, run_equal_slice_nil w 33 56 A n c Try.underlying33]

set_option maxRecDepth 100000 in
/-- slices.Clone -/
theorem iclone (l : List Rg) (A : Option Addr) (cap B : Nat) (w : World) (hB : B ≤ w.heap.size) (hr : Rgs w B A l) (hn : l.length ≤ 1000000000) :
    Calls Try.prog 64 #[.slice A l.length cap] w fun e w' => ∃ v, e = .returned v ∧ OwnR w' w.heap.size v l ∧ Below w.heap.size w w' := by
  cases A with
  | none =>
    obtain rfl : l = [] := by
      cases l with
      | nil => rfl
      | cons x l => obtain ⟨b, off, hA, _⟩ := hr 0 (by simp); cases hA
    clear hr
    have hq := fun W => eql_nil none 0 cap W
    simp only [Option.isNone] at hq
    go_enter Try.func64, Try.ntmps64
    go_wp2
    go_ret
    exact ⟨_, rfl, OwnR.empty, Below.refl _ _⟩
  | some x =>
    by_cases h0 : l = []
    · subst h0
      clear hr
      have hq := fun W => eql_nil (some x) 0 cap W
      simp only [Option.isNone] at hq
      have HO := Lib.hid (OwnR.lit w w.heap.size 0 #[] (Nat.le_refl _) (by decide) rfl)
      have HB := Lib.hid ((Below.refl w.heap.size w).alloc (Nat.le_refl _) (.cells #[] 56))
      go_enter Try.func64, Try.ntmps64
      go_wp2_with (at_builtin; refine wpList_append_no _ rfl _ _ rfl _ (some x) 0 0 cap rfl (Nat.le_refl _) rfl ?_)
      go_ret
      exact ⟨_, rfl, HO.out, HB.out⟩
    · obtain ⟨b, off, hA, hb, h1, h2⟩ := hr 0 (by cases l with | nil => exact absurd rfl h0 | cons x l => exact Nat.zero_lt_succ _)
      injection hA with hA
      subst hA
      have HR := Lib.hid (hr.keep (w' := w.alloc (.cells #[] 56)) fun k hk => heap_alloc_old w _ (by omega))
      have HO := Lib.hid (OwnR.lit w w.heap.size 0 #[] (Nat.le_refl _) (by decide) rfl)
      have HB := Lib.hid ((Below.refl w.heap.size w).alloc (Nat.le_refl _) (.cells #[] 56))
      have hq := fun W => eql_nil (some ⟨b, off, none⟩) l.length cap W
      simp only [Option.isNone] at hq
      clear h1 h2 hr
      go_enter Try.func64, Try.ntmps64
      go_wp2_with (at_builtin; refine wpList_append_rgs _ rfl _ _ rfl w.heap.size _ [] rfl HO.out b off l.length cap B l rfl rfl HR.out (by simp; omega) (by simp) ?_; intro v' w' hown' hbel)
      go_ret
      exact ⟨_, rfl, hown', HB.out.trans hbel⟩
end Go.Proofs.Ytjohbfdifdjldac

namespace Go.Proofs.Ytjohbfdifdjldac
open Go.RowKit Go.Deep Go.Proofs.Ytjohbfdifdjldac.Num

/-- A cell of the parameter's block is written. -/
theorem IrS.putc {w : World} {n go : Nat} {R : Nat → Option Obj} {s : Sn} {v1 v2 v3 v4 : Value} {W : World} (h : IrS w n go R s v1 v2 v3 v4 W) (k : Nat) (y : Value) {s' : Sn} {u1 u2 u3 u4 : Value} (hb : RowS (W.setCell ⟨w.heap.size, k, none⟩ y) w.heap.size s' u1 u2 u3 u4) : IrS w n go R s' u1 u2 u3 u4 (W.setCell ⟨w.heap.size, k, none⟩ y) :=
  ⟨hb, h.o.other w.heap.size k y (by have := h.lo; omega), h.bl.setCell (p := ⟨w.heap.size, k, none⟩) (Nat.le_refl _) y, by simpa [World.setCell] using h.sz, h.lo, fun j a b => (Below.heap_setCell W ⟨w.heap.size, k, none⟩ y j (by show j ≠ w.heap.size; omega)).trans (h.kp j a b)⟩
theorem IrS.putN {w : World} {n go : Nat} {R : Nat → Option Obj} {s : Sn} {v1 v2 v3 v4 : Value} {W : World} (h : IrS w n go R s v1 v2 v3 v4 W) (r : Rn) (v : Value) : IrS w n go R { s with rn := r } v v2 v3 v4 ((((W.setCell ⟨w.heap.size, 1, none⟩ (.int .i64 r.size)).setCell ⟨w.heap.size, 2, none⟩ (.int .i64 r.base)).setCell ⟨w.heap.size, 3, none⟩ (.int .i64 r.en)).setCell ⟨w.heap.size, 4, none⟩ v) := by
  have h1 := h.putc 1 (.int .i64 r.size) (h.b.set1 r.size)
  have h2 := h1.putc 2 (.int .i64 r.base) (h1.b.set2 r.base)
  have h3 := h2.putc 3 (.int .i64 r.en) (h2.b.set3 r.en)
  exact h3.putc 4 v (h3.b.set4 v r.cs)
theorem laidN_size (W : World) (g : Nat) (r : Rn) (v : Value) : ((((W.setCell ⟨g, 1, none⟩ (.int .i64 r.size)).setCell ⟨g, 2, none⟩ (.int .i64 r.base)).setCell ⟨g, 3, none⟩ (.int .i64 r.en)).setCell ⟨g, 4, none⟩ v).heap.size = W.heap.size := by simp [World.setCell]
theorem setCell_size (W : World) (p : Addr) (v : Value) : (W.setCell p v).heap.size = W.heap.size := by simp [World.setCell]
theorem OwnK.laidN {w : World} {B : Nat} {u : Value} {l : List Int} (h : OwnK w B u l) (g : Nat) (hg : g < B) (r : Rn) (v : Value) : OwnK ((((w.setCell ⟨g, 1, none⟩ (.int .i64 r.size)).setCell ⟨g, 2, none⟩ (.int .i64 r.base)).setCell ⟨g, 3, none⟩ (.int .i64 r.en)).setCell ⟨g, 4, none⟩ v) B u l := (((h.apart g 1 _ hg).apart g 2 _ hg).apart g 3 _ hg).apart g 4 _ hg
theorem OwnP.laidN {w : World} {B : Nat} {u : Value} {l : List Rg} (h : OwnP w B u l) (g : Nat) (hg : g < B) (r : Rn) (v : Value) : OwnP ((((w.setCell ⟨g, 1, none⟩ (.int .i64 r.size)).setCell ⟨g, 2, none⟩ (.int .i64 r.base)).setCell ⟨g, 3, none⟩ (.int .i64 r.en)).setCell ⟨g, 4, none⟩ v) B u l := (((h.apart g 1 _ hg).apart g 2 _ hg).apart g 3 _ hg).apart g 4 _ hg
/-- The parameter's block holds a sender whose slices are the call's own. -/
def OrS (w : World) (n go : Nat) (R : Nat → Option Obj) (x : Sn) (u1 u2 u3 u4 : Value) (W : World) : Prop := IrS w n go R x u1 u2 u3 u4 W ∧ OwnSn W (w.heap.size + n) u1 u2 u3 u4 x
theorem OrS.next {w : World} {n go : Nat} {R : Nat → Option Obj} {x : Sn} {u1 u2 u3 u4 : Value} {W W' : World} (h : OrS w n go R x u1 u2 u3 u4 W) (hb : Below W.heap.size W W') : OrS w n go R x u1 u2 u3 u4 W' := ⟨h.1.next hb, h.2.later hb⟩
theorem OrS.drew {w : World} {n go : Nat} {R : Nat → Option Obj} {x : Sn} {u1 u2 u3 u4 : Value} {W : World} (h : OrS w n go R x u1 u2 u3 u4 W) : OrS w n go R x u1 u2 u3 u4 W.drew := h.next (Below.refl _ _).drew
theorem OrS.alloc {w : World} {n go : Nat} {R : Nat → Option Obj} {x : Sn} {u1 u2 u3 u4 : Value} {W : World} (h : OrS w n go R x u1 u2 u3 u4 W) (o : Obj) : OrS w n go R x u1 u2 u3 u4 (W.alloc o) := h.next ((Below.refl _ _).alloc (Nat.le_refl _) _)
/-- What was made is laid over the parameter. -/
theorem OrS.laid {w : World} {n go : Nat} {R : Nat → Option Obj} {s : Sn} {v1 v2 v3 v4 : Value} {W : World} (h : IrS w n go R s v1 v2 v3 v4 W) {x : Sn} {u1 u2 u3 u4 : Value} (ho : OwnSn W (w.heap.size + n) u1 u2 u3 u4 x) : OrS w n go R x u1 u2 u3 u4 ((((((((((((W.setCell ⟨w.heap.size, 0, none⟩ (.int .i64 x.st)).setCell ⟨w.heap.size, 1, none⟩ (.int .i64 x.rn.size)).setCell ⟨w.heap.size, 2, none⟩ (.int .i64 x.rn.base)).setCell ⟨w.heap.size, 3, none⟩ (.int .i64 x.rn.en)).setCell ⟨w.heap.size, 4, none⟩ u1).setCell ⟨w.heap.size, 5, none⟩ u2).setCell ⟨w.heap.size, 6, none⟩ u3).setCell ⟨w.heap.size, 7, none⟩ u4).setCell ⟨w.heap.size, 8, none⟩ (.int .i64 x.fin)).setCell ⟨w.heap.size, 9, none⟩ (.int .i64 x.fi)).setCell ⟨w.heap.size, 10, none⟩ (.int .i64 x.sent)).setCell ⟨w.heap.size, 11, none⟩ (.int .i64 x.code)) := by
  show OrS w n go R x u1 u2 u3 u4 (laidS W w.heap.size x u1 u2 u3 u4)
  have hz : ∀ (j : Nat), j ≠ w.heap.size → (laidS W w.heap.size x u1 u2 u3 u4).heap[j]? = W.heap[j]? := fun j hj => by
    have q : ∀ (W : World) (k : Nat) (y : Value), (W.setCell ⟨w.heap.size, k, none⟩ y).heap[j]? = W.heap[j]? := fun W k y => Below.heap_setCell W ⟨w.heap.size, k, none⟩ y j hj
    simp only [laidS, q]
  refine ⟨⟨laidS_row h.b _ _ _ _ _, (hz go (by have := h.lo; omega)).trans h.o, laidS_below h.bl (Nat.le_refl _) _ _ _ _ _, ?_, h.lo, fun j a b => (hz j (by omega)).trans (h.kp j a b)⟩, laidS_own ho (by have := h.lo; omega) _ _ _ _ _⟩
  have e : (laidS W w.heap.size x u1 u2 u3 u4).heap.size = W.heap.size := by simp [laidS]
  rw [e]
  exact h.sz
/-- A number of the parameter's is written. -/
theorem OrS.putn {w : World} {n go : Nat} {R : Nat → Option Obj} {x x' : Sn} {u1 u2 u3 u4 : Value} {W : World} (h : OrS w n go R x u1 u2 u3 u4 W) (k : Nat) (y : Value) (hb : RowS (W.setCell ⟨w.heap.size, k, none⟩ y) w.heap.size x' u1 u2 u3 u4) (e1 : x'.rn.cs = x.rn.cs) (e2 : x'.pe = x.pe) (e3 : x'.fl = x.fl) (e4 : x'.ac = x.ac) : OrS w n go R x' u1 u2 u3 u4 (W.setCell ⟨w.heap.size, k, none⟩ y) := by
  refine ⟨h.1.putc k y hb, ?_⟩
  show OwnS _ _ _ _ _ _ x'.rn.cs x'.pe x'.fl x'.ac
  rw [e1, e2, e3, e4]
  exact h.2.apart w.heap.size k y (by have := h.1.lo; omega)
theorem OrS.put0 {w : World} {n go : Nat} {R : Nat → Option Obj} {x : Sn} {u1 u2 u3 u4 : Value} {W : World} (h : OrS w n go R x u1 u2 u3 u4 W) (y : Int) : OrS w n go R { x with st := y } u1 u2 u3 u4 (W.setCell ⟨w.heap.size, 0, none⟩ (.int .i64 y)) := h.putn 0 _ (h.1.b.set0 y) rfl rfl rfl rfl
theorem OrS.put8 {w : World} {n go : Nat} {R : Nat → Option Obj} {x : Sn} {u1 u2 u3 u4 : Value} {W : World} (h : OrS w n go R x u1 u2 u3 u4 W) (y : Int) : OrS w n go R { x with fin := y } u1 u2 u3 u4 (W.setCell ⟨w.heap.size, 8, none⟩ (.int .i64 y)) := h.putn 8 _ (h.1.b.set8 y) rfl rfl rfl rfl
theorem OrS.put9 {w : World} {n go : Nat} {R : Nat → Option Obj} {x : Sn} {u1 u2 u3 u4 : Value} {W : World} (h : OrS w n go R x u1 u2 u3 u4 W) (y : Int) : OrS w n go R { x with fi := y } u1 u2 u3 u4 (W.setCell ⟨w.heap.size, 9, none⟩ (.int .i64 y)) := h.putn 9 _ (h.1.b.set9 y) rfl rfl rfl rfl
theorem OrS.put10 {w : World} {n go : Nat} {R : Nat → Option Obj} {x : Sn} {u1 u2 u3 u4 : Value} {W : World} (h : OrS w n go R x u1 u2 u3 u4 W) (y : Int) : OrS w n go R { x with sent := y } u1 u2 u3 u4 (W.setCell ⟨w.heap.size, 10, none⟩ (.int .i64 y)) := h.putn 10 _ (h.1.b.set10 y) rfl rfl rfl rfl
/-- A new ring is written. -/
theorem OrS.putR {w : World} {n go : Nat} {R : Nat → Option Obj} {x : Sn} {u1 u2 u3 u4 : Value} {W W' : World} (h : OrS w n go R x u1 u2 u3 u4 W) (hb : Below W.heap.size W W') {v : Value} {r : Rn} (ho : OwnK W' W.heap.size v r.cs) : OrS w n go R { x with rn := r } v u2 u3 u4 ((((W'.setCell ⟨w.heap.size, 1, none⟩ (.int .i64 r.size)).setCell ⟨w.heap.size, 2, none⟩ (.int .i64 r.base)).setCell ⟨w.heap.size, 3, none⟩ (.int .i64 r.en)).setCell ⟨w.heap.size, 4, none⟩ v) := by
  have h' := h.next hb
  have hg : w.heap.size < w.heap.size + n := by have := h.1.lo; omega
  have hu := h.2.under
  exact ⟨h'.1.putN r v, ⟨(ho.weaken h.1.sz).laidN _ hg _ _, (h'.2.1.2.1).laidN _ hg _ _, (h'.2.1.2.2.1).laidN _ hg _ _, (h'.2.1.2.2.2).laidN _ hg _ _⟩, ⟨(apart_new hu.2.1 ho.lo).symm, (apart_new hu.2.2.1 ho.lo).symm, (apart_new hu.2.2.2 ho.lo).symm⟩, h.2.2.2.1, h.2.2.2.2⟩
/-- A new slice of what is to be sent is written. -/
theorem OrS.putP {w : World} {n go : Nat} {R : Nat → Option Obj} {x : Sn} {u1 u2 u3 u4 : Value} {W W' : World} (h : OrS w n go R x u1 u2 u3 u4 W) (hb : Below W.heap.size W W') {v : Value} {l : List Rg} (ho : OwnP W' W.heap.size v l) : OrS w n go R { x with pe := l } u1 v u3 u4 (W'.setCell ⟨w.heap.size, 5, none⟩ v) := by
  have h' := h.next hb
  have hg : w.heap.size < w.heap.size + n := by have := h.1.lo; omega
  have hu := h.2.under
  exact ⟨h'.1.putc 5 v (h'.1.b.set5 v l), ⟨h'.2.1.1.apart _ 5 v hg, (ho.weaken h.1.sz).apart _ 5 v hg, h'.2.1.2.2.1.apart _ 5 v hg, h'.2.1.2.2.2.apart _ 5 v hg⟩, ⟨apart_new hu.1 ho.lo, h.2.2.1.2.1, h.2.2.1.2.2⟩, ⟨(apart_new hu.2.2.1 ho.lo).symm, (apart_new hu.2.2.2 ho.lo).symm⟩, h.2.2.2.2⟩
/-- The three sets are written anew. -/
theorem OrS.putT {w : World} {n go : Nat} {R : Nat → Option Obj} {x : Sn} {u1 u2 u3 u4 : Value} {W : World} (h : IrS w n go R x u1 u2 u3 u4 W) {y2 y3 y4 : Value} {l2 l3 l4 : List Rg} (ho : OwnS W (w.heap.size + n) u1 y2 y3 y4 x.rn.cs l2 l3 l4) : OrS w n go R { x with pe := l2, fl := l3, ac := l4 } u1 y2 y3 y4 (((W.setCell ⟨w.heap.size, 5, none⟩ y2).setCell ⟨w.heap.size, 6, none⟩ y3).setCell ⟨w.heap.size, 7, none⟩ y4) := by
  have hg : w.heap.size < w.heap.size + n := by have := h.lo; omega
  have h1 := h.putc 5 y2 (h.b.set5 y2 l2)
  have h2 := h1.putc 6 y3 (h1.b.set6 y3 l3)
  exact ⟨h2.putc 7 y4 (h2.b.set7 y4 l4), ((ho.apart _ 5 _ hg).apart _ 6 _ hg).apart _ 7 _ hg⟩
set_option maxRecDepth 100000 in
set_option maxHeartbeats 8000000 in
/-- impl.cloneSender -/
theorem icloneS (s : Sn) (A1 A2 A3 A4 : Option Addr) (c1 c2 c3 c4 B : Nat) (w : World) (hB : B ≤ w.heap.size) (hr : ReadS w B A1 A2 A3 A4 s) (hn : LenS 1000000000 s) :
    Calls Try.prog 34 #[snV s (.slice A1 s.rn.cs.length c1) (.slice A2 s.pe.length c2) (.slice A3 s.fl.length c3) (.slice A4 s.ac.length c4)] w fun e w' => ∃ v1 v2 v3 v4, e = .returned (snV s v1 v2 v3 v4) ∧ OwnSn w' w.heap.size v1 v2 v3 v4 s ∧ Below w.heap.size w w' := by
  have HH := Lib.hid (IrS.start w (fun _ => none) s (.slice A1 s.rn.cs.length c1) (.slice A2 s.pe.length c2) (.slice A3 s.fl.length c3) (.slice A4 s.ac.length c4))
  have HC1 : Hid (∀ W, Below w.heap.size w W → Calls Try.prog 63 #[rnV s.rn (.slice A1 s.rn.cs.length c1)] W fun e w' => ∃ v, e = .returned (rnV s.rn v) ∧ OwnK w' W.heap.size v s.rn.cs ∧ Below W.heap.size W w') := Lib.hid fun W h => iclonern s.rn A1 c1 B W (Nat.le_trans hB h.size) (hr.1.below hB h) hn.1
  have HC2 : Hid (∀ W, Below w.heap.size w W → Calls Try.prog 64 #[.slice A2 s.pe.length c2] W fun e w' => ∃ v, e = .returned v ∧ OwnR w' W.heap.size v s.pe ∧ Below W.heap.size W w') := Lib.hid fun W h => iclone s.pe A2 c2 B W (Nat.le_trans hB h.size) (hr.2.1.below hB h) hn.2.1
  have HC3 : Hid (∀ W, Below w.heap.size w W → Calls Try.prog 64 #[.slice A3 s.fl.length c3] W fun e w' => ∃ v, e = .returned v ∧ OwnR w' W.heap.size v s.fl ∧ Below W.heap.size W w') := Lib.hid fun W h => iclone s.fl A3 c3 B W (Nat.le_trans hB h.size) (hr.2.2.1.below hB h) hn.2.2.1
  have HC4 : Hid (∀ W, Below w.heap.size w W → Calls Try.prog 64 #[.slice A4 s.ac.length c4] W fun e w' => ∃ v, e = .returned v ∧ OwnR w' W.heap.size v s.ac ∧ Below W.heap.size W w') := Lib.hid fun W h => iclone s.ac A4 c4 B W (Nat.le_trans hB h.size) (hr.2.2.2.below hB h) hn.2.2.2
  clear hr hn
  go_enter Try.func34, Try.ntmps34
  go_upto_region 1 with fail
  generalize (w.alloc (.cells (snB s (.slice A1 s.rn.cs.length c1) (.slice A2 s.pe.length c2) (.slice A3 s.fl.length c3) (.slice A4 s.ac.length c4)) 35)).alloc (.cells (snC 0 0 0 0 (.slice none 0 0) (.slice none 0 0) (.slice none 0 0) (.slice none 0 0) 0 0 0 0) 35) = w2 at *
  obtain ⟨a0, a1, a2, a3, a4, a5, a6, a7, a8, a9, a10, a11⟩ := HH.out.b.cells
  have af := HH.out.b.free
  go_wp2_with fail
  refine (HC1.out _ HH.out.bl).mono ?_
  rintro e w3 ⟨u1, rfl, ho, hb⟩
  obtain ⟨B1, d1, rfl, _, _⟩ := ho.frs
  have HO1 := Lib.hid (ho.weaken HH.out.sz)
  have HL1 := Lib.hid (fun k hk => (ho.lt k hk).2)
  have HH := Lib.hid (HH.out.next hb)
  clear ho hb a0 a1 a2 a3 a4 a5 a6 a7 a8 a9 a10 a11 af
  obtain ⟨a0, a1, a2, a3, a4, a5, a6, a7, a8, a9, a10, a11⟩ := HH.out.b.cells
  have af := HH.out.b.free
  go_upto_region 2 with fail
  have HH := Lib.hid (HH.out.putN s.rn (.slice B1 s.rn.cs.length d1))
  have HO1 := Lib.hid (HO1.out.laidN w.heap.size (by omega) s.rn (.slice B1 s.rn.cs.length d1))
  have HZ := Lib.hid (laidN_size w3 w.heap.size s.rn (.slice B1 s.rn.cs.length d1))
  clear a0 a1 a2 a3 a4 a5 a6 a7 a8 a9 a10 a11 af
  generalize ((((w3.setCell ⟨w.heap.size, 1, none⟩ (.int .i64 s.rn.size)).setCell ⟨w.heap.size, 2, none⟩ (.int .i64 s.rn.base)).setCell ⟨w.heap.size, 3, none⟩ (.int .i64 s.rn.en)).setCell ⟨w.heap.size, 4, none⟩ (.slice B1 s.rn.cs.length d1)) = w4 at *
  rw [← HZ.out] at HL1
  clear HZ
  obtain ⟨a0, a1, a2, a3, a4, a5, a6, a7, a8, a9, a10, a11⟩ := HH.out.b.cells
  have af := HH.out.b.free
  go_wp2_with fail
  refine (HC2.out _ HH.out.bl).mono ?_
  rintro e w5 ⟨u2, rfl, ho, hb⟩
  obtain ⟨B2, d2, rfl, _, _⟩ := ho.p.frs
  have HO2 := Lib.hid (ho.p.weaken HH.out.sz)
  have HG2 := Lib.hid ho.p.lo
  have HL2 := Lib.hid (fun k hk => (ho.p.lt k hk).2)
  have HZ2 := Lib.hid hb.size
  have HH := Lib.hid (HH.out.next hb)
  have HO1 := Lib.hid (HO1.out.later hb)
  clear ho hb a0 a1 a2 a3 a4 a5 a6 a7 a8 a9 a10 a11 af
  obtain ⟨a0, a1, a2, a3, a4, a5, a6, a7, a8, a9, a10, a11⟩ := HH.out.b.cells
  have af := HH.out.b.free
  go_upto_region 3 with fail
  have HH := Lib.hid (HH.out.putc 5 (.slice B2 s.pe.length d2) (HH.out.b.set5 (.slice B2 s.pe.length d2) s.pe))
  have HO1 := Lib.hid (HO1.out.apart w.heap.size 5 (.slice B2 s.pe.length d2) (by omega))
  have HO2 := Lib.hid (HO2.out.apart w.heap.size 5 (.slice B2 s.pe.length d2) (by omega))
  have HZ := Lib.hid (setCell_size w5 ⟨w.heap.size, 5, none⟩ (.slice B2 s.pe.length d2))
  clear a0 a1 a2 a3 a4 a5 a6 a7 a8 a9 a10 a11 af
  generalize w5.setCell ⟨w.heap.size, 5, none⟩ (.slice B2 s.pe.length d2) = w6 at *
  rw [← HZ.out] at HL2 HZ2
  clear HZ
  obtain ⟨a0, a1, a2, a3, a4, a5, a6, a7, a8, a9, a10, a11⟩ := HH.out.b.cells
  have af := HH.out.b.free
  go_wp2_with fail
  refine (HC3.out _ HH.out.bl).mono ?_
  rintro e w7 ⟨u3, rfl, ho, hb⟩
  obtain ⟨B3, d3, rfl, _, _⟩ := ho.p.frs
  have HO3 := Lib.hid (ho.p.weaken HH.out.sz)
  have HG3 := Lib.hid ho.p.lo
  have HL3 := Lib.hid (fun k hk => (ho.p.lt k hk).2)
  have HZ3 := Lib.hid hb.size
  have HH := Lib.hid (HH.out.next hb)
  have HO1 := Lib.hid (HO1.out.later hb)
  have HO2 := Lib.hid (HO2.out.later hb)
  clear ho hb a0 a1 a2 a3 a4 a5 a6 a7 a8 a9 a10 a11 af
  obtain ⟨a0, a1, a2, a3, a4, a5, a6, a7, a8, a9, a10, a11⟩ := HH.out.b.cells
  have af := HH.out.b.free
  go_upto_region 4 with fail
  have HH := Lib.hid (HH.out.putc 6 (.slice B3 s.fl.length d3) (HH.out.b.set6 (.slice B3 s.fl.length d3) s.fl))
  have HO1 := Lib.hid (HO1.out.apart w.heap.size 6 (.slice B3 s.fl.length d3) (by omega))
  have HO2 := Lib.hid (HO2.out.apart w.heap.size 6 (.slice B3 s.fl.length d3) (by omega))
  have HO3 := Lib.hid (HO3.out.apart w.heap.size 6 (.slice B3 s.fl.length d3) (by omega))
  have HZ := Lib.hid (setCell_size w7 ⟨w.heap.size, 6, none⟩ (.slice B3 s.fl.length d3))
  clear a0 a1 a2 a3 a4 a5 a6 a7 a8 a9 a10 a11 af
  generalize w7.setCell ⟨w.heap.size, 6, none⟩ (.slice B3 s.fl.length d3) = w8 at *
  rw [← HZ.out] at HL3 HZ3
  clear HZ
  obtain ⟨a0, a1, a2, a3, a4, a5, a6, a7, a8, a9, a10, a11⟩ := HH.out.b.cells
  have af := HH.out.b.free
  go_wp2_with fail
  refine (HC4.out _ HH.out.bl).mono ?_
  rintro e w9 ⟨u4, rfl, ho, hb⟩
  obtain ⟨B4, d4, rfl, _, _⟩ := ho.p.frs
  have HO4 := Lib.hid (ho.p.weaken HH.out.sz)
  have HG4 := Lib.hid ho.p.lo
  have HL4 := Lib.hid (fun k hk => (ho.p.lt k hk).2)
  have HZ4 := Lib.hid hb.size
  have HH := Lib.hid (HH.out.next hb)
  have HO1 := Lib.hid (HO1.out.later hb)
  have HO2 := Lib.hid (HO2.out.later hb)
  have HO3 := Lib.hid (HO3.out.later hb)
  clear ho hb a0 a1 a2 a3 a4 a5 a6 a7 a8 a9 a10 a11 af
  obtain ⟨a0, a1, a2, a3, a4, a5, a6, a7, a8, a9, a10, a11⟩ := HH.out.b.cells
  have af := HH.out.b.free
  go_upto_region 5 with fail
  have HH := Lib.hid (HH.out.putc 7 (.slice B4 s.ac.length d4) (HH.out.b.set7 (.slice B4 s.ac.length d4) s.ac))
  have HO1 := Lib.hid (HO1.out.apart w.heap.size 7 (.slice B4 s.ac.length d4) (by omega))
  have HO2 := Lib.hid (HO2.out.apart w.heap.size 7 (.slice B4 s.ac.length d4) (by omega))
  have HO3 := Lib.hid (HO3.out.apart w.heap.size 7 (.slice B4 s.ac.length d4) (by omega))
  have HO4 := Lib.hid (HO4.out.apart w.heap.size 7 (.slice B4 s.ac.length d4) (by omega))
  have HZ := Lib.hid (setCell_size w9 ⟨w.heap.size, 7, none⟩ (.slice B4 s.ac.length d4))
  clear a0 a1 a2 a3 a4 a5 a6 a7 a8 a9 a10 a11 af
  generalize w9.setCell ⟨w.heap.size, 7, none⟩ (.slice B4 s.ac.length d4) = w10 at *
  rw [← HZ.out] at HL4 HZ4
  clear HZ
  have HS := Lib.hid (OwnS.made HO1.out HO2.out HO3.out HO4.out HL1.out HG2.out HL2.out HG3.out HL3.out HG4.out HZ2.out HZ3.out)
  obtain ⟨a0, a1, a2, a3, a4, a5, a6, a7, a8, a9, a10, a11⟩ := HH.out.b.cells
  obtain ⟨q0, q1, q2, q3, q4, q5, q6, q7, q8, q9, q10, q11⟩ := HH.out.o.cells
  have qf := HH.out.o.free
  go_wp2
  have X := HH.out.out s _ _ _ _ HS.out
  refine bodyPost_ret (results_cell_row rfl _ _ (w.heap.size + 1) _ _ _ _ rfl X.1 Try.underlying35 rfl (by kernel_rfl)) rfl ?_
  exact ⟨_, _, _, _, rfl, X.2.1, X.2.2⟩
end Go.Proofs.Ytjohbfdifdjldac

namespace Go.Proofs.Ytjohbfdifdjldac
open Go.RowKit Go.Deep Go.Proofs.Ytjohbfdifdjldac.Num

set_option maxRecDepth 100000 in
set_option maxHeartbeats 8000000 in
/-- impl.AckReset -/
theorem iackrs (s : Sn) (A1 A2 A3 A4 : Option Addr) (c1 c2 c3 c4 B : Nat) (w : World) (hB : B ≤ w.heap.size) (hr : ReadS w B A1 A2 A3 A4 s) (hn : LenS 1000000000 s) (hn2 : LenT s) (hx : inSn s) :
    Calls Try.prog 17 #[snV s (.slice A1 s.rn.cs.length c1) (.slice A2 s.pe.length c2) (.slice A3 s.fl.length c3) (.slice A4 s.ac.length c4)] w fun e w' => ∃ v1 v2 v3 v4, e = .returned (.tuple #[snV (arS (decide (docSn s)) s) v1 v2 v3 v4, .bool (decide (decide (docSn s) = true ∧ s.st = 4))]) ∧ OwnSn w' w.heap.size v1 v2 v3 v4 (arS (decide (docSn s)) s) ∧ Below w.heap.size w w' := by
  have HH := Lib.hid (IrS.start w (fun _ => none) s (.slice A1 s.rn.cs.length c1) (.slice A2 s.pe.length c2) (.slice A3 s.fl.length c3) (.slice A4 s.ac.length c4))
  have HCP : Hid (∀ W, Below w.heap.size w W → Calls Try.prog 34 #[snV s (.slice A1 s.rn.cs.length c1) (.slice A2 s.pe.length c2) (.slice A3 s.fl.length c3) (.slice A4 s.ac.length c4)] W fun e w' => ∃ v1 v2 v3 v4, e = .returned (snV s v1 v2 v3 v4) ∧ OwnSn w' W.heap.size v1 v2 v3 v4 s ∧ Below W.heap.size W w') := Lib.hid fun W h => icloneS s A1 A2 A3 A4 c1 c2 c3 c4 B W (Nat.le_trans hB h.size) (hr.below hB h) (hn.up (by decide))
  have HIS : Hid (∀ (W : World) (B1 B2 B3 B4 : Option Addr) (d1 d2 d3 d4 : Nat), ReadS W W.heap.size B1 B2 B3 B4 s → CapT s d2 d3 d4 → Calls Try.prog 46 #[snV s (.slice B1 s.rn.cs.length d1) (.slice B2 s.pe.length d2) (.slice B3 s.fl.length d3) (.slice B4 s.ac.length d4)] W fun e w' => e = .returned (.bool (decide (docSn s))) ∧ Below W.heap.size W w') := Lib.hid fun W B1 B2 B3 B4 d1 d2 d3 d4 h h2 => iissn s B1 B2 B3 B4 d1 d2 d3 d4 W.heap.size W (Nat.le_refl _) h (hn.up (by decide)) hn2 h2 hx.2.1
  clear hr hn hn2 hx
  by_cases h1 : s.st = 4
  rotate_left
  · skip
    have hno : ¬ (decide (docSn s) = true ∧ s.st = 4) := fun h => h1 h.2
    rw [show arS (decide (docSn s)) s = s from if_neg hno, decide_eq_false hno]
    have t1 : (s.st != 4) = true := by simpa using h1
    clear hno h1 HIS
    go_enter Try.func17, Try.ntmps17
    go_upto_region 1 with fail
    generalize (w.alloc (.cells (snB s (.slice A1 s.rn.cs.length c1) (.slice A2 s.pe.length c2) (.slice A3 s.fl.length c3) (.slice A4 s.ac.length c4)) 35)).alloc (.cells (snC 0 0 0 0 (.slice none 0 0) (.slice none 0 0) (.slice none 0 0) (.slice none 0 0) 0 0 0 0) 35) = w2 at *
    obtain ⟨a0, a1, a2, a3, a4, a5, a6, a7, a8, a9, a10, a11⟩ := HH.out.b.cells
    have af := HH.out.b.free
    go_wp2_with fail
    refine (HCP.out _ HH.out.bl).mono ?_
    rintro e w3 ⟨u1, u2, u3, u4, rfl, ho, hb⟩
    have HO := Lib.hid (OrS.laid (HH.out.next hb) (ho.weaken HH.out.sz))
    have HH2 := Lib.hid (HH.out.next hb)
    obtain ⟨B1, B2, B3, B4, d1, d2, d3, d4, rfl, rfl, rfl, rfl, k1, k2, k3, k4⟩ := ho.frs
    have HCD : Hid (CapT s d2 d3 d4) := Lib.hid ⟨k2, k3, k4⟩
    clear ho hb k1 k2 k3 k4 a0 a1 a2 a3 a4 a5 a6 a7 a8 a9 a10 a11 af HCP
    obtain ⟨a0, a1, a2, a3, a4, a5, a6, a7, a8, a9, a10, a11⟩ := HH2.out.b.cells
    have af := HH2.out.b.free
    go_upto_region 2 with fail
    clear HH2 a0 a1 a2 a3 a4 a5 a6 a7 a8 a9 a10 a11 af
    generalize ((((((((((((w3.setCell ⟨w.heap.size, 0, none⟩ (.int .i64 s.st)).setCell ⟨w.heap.size, 1, none⟩ (.int .i64 s.rn.size)).setCell ⟨w.heap.size, 2, none⟩ (.int .i64 s.rn.base)).setCell ⟨w.heap.size, 3, none⟩ (.int .i64 s.rn.en)).setCell ⟨w.heap.size, 4, none⟩ (.slice B1 s.rn.cs.length d1)).setCell ⟨w.heap.size, 5, none⟩ (.slice B2 s.pe.length d2)).setCell ⟨w.heap.size, 6, none⟩ (.slice B3 s.fl.length d3)).setCell ⟨w.heap.size, 7, none⟩ (.slice B4 s.ac.length d4)).setCell ⟨w.heap.size, 8, none⟩ (.int .i64 s.fin)).setCell ⟨w.heap.size, 9, none⟩ (.int .i64 s.fi)).setCell ⟨w.heap.size, 10, none⟩ (.int .i64 s.sent)).setCell ⟨w.heap.size, 11, none⟩ (.int .i64 s.code)) = w4 at *
    obtain ⟨a0, a1, a2, a3, a4, a5, a6, a7, a8, a9, a10, a11⟩ := HO.out.1.b.cells
    clear a0 a1 a2 a3 a4 a5 a6 a7 a8 a9 a10 a11
    obtain ⟨a0, a1, a2, a3, a4, a5, a6, a7, a8, a9, a10, a11⟩ := HO.out.1.b.cells
    (try simp only at a0 a1 a2 a3 a4 a5 a6 a7 a8 a9 a10 a11)
    obtain ⟨q0, q1, q2, q3, q4, q5, q6, q7, q8, q9, q10, q11⟩ := HO.out.1.o.cells
    have qf := HO.out.1.o.free
    go_wp2
    have X := HO.out.1.out _ _ _ _ _ HO.out.2
    refine bodyPost_ret (results_ct rfl _ _ (w.heap.size + 1) _ _ _ _ rfl X.1 Try.underlying35 rfl (by kernel_rfl)) rfl ?_
    exact ⟨_, _, _, _, rfl, X.2.1, X.2.2⟩
  have t1 : (s.st != 4) = false := by simpa using h1
  by_cases hok : docSn s
  rotate_left
  · skip
    have hno : ¬ (decide (docSn s) = true ∧ s.st = 4) := fun h => hok (of_decide_eq_true h.1)
    rw [show arS (decide (docSn s)) s = s from if_neg hno, decide_eq_false hno]
    rw [decide_eq_false hok] at HIS
    clear hno hok h1
    go_enter Try.func17, Try.ntmps17
    go_upto_region 1 with fail
    generalize (w.alloc (.cells (snB s (.slice A1 s.rn.cs.length c1) (.slice A2 s.pe.length c2) (.slice A3 s.fl.length c3) (.slice A4 s.ac.length c4)) 35)).alloc (.cells (snC 0 0 0 0 (.slice none 0 0) (.slice none 0 0) (.slice none 0 0) (.slice none 0 0) 0 0 0 0) 35) = w2 at *
    obtain ⟨a0, a1, a2, a3, a4, a5, a6, a7, a8, a9, a10, a11⟩ := HH.out.b.cells
    have af := HH.out.b.free
    go_wp2_with fail
    refine (HCP.out _ HH.out.bl).mono ?_
    rintro e w3 ⟨u1, u2, u3, u4, rfl, ho, hb⟩
    have HO := Lib.hid (OrS.laid (HH.out.next hb) (ho.weaken HH.out.sz))
    have HH2 := Lib.hid (HH.out.next hb)
    obtain ⟨B1, B2, B3, B4, d1, d2, d3, d4, rfl, rfl, rfl, rfl, k1, k2, k3, k4⟩ := ho.frs
    have HCD : Hid (CapT s d2 d3 d4) := Lib.hid ⟨k2, k3, k4⟩
    clear ho hb k1 k2 k3 k4 a0 a1 a2 a3 a4 a5 a6 a7 a8 a9 a10 a11 af HCP
    obtain ⟨a0, a1, a2, a3, a4, a5, a6, a7, a8, a9, a10, a11⟩ := HH2.out.b.cells
    have af := HH2.out.b.free
    go_upto_region 2 with fail
    clear HH2 a0 a1 a2 a3 a4 a5 a6 a7 a8 a9 a10 a11 af
    generalize ((((((((((((w3.setCell ⟨w.heap.size, 0, none⟩ (.int .i64 s.st)).setCell ⟨w.heap.size, 1, none⟩ (.int .i64 s.rn.size)).setCell ⟨w.heap.size, 2, none⟩ (.int .i64 s.rn.base)).setCell ⟨w.heap.size, 3, none⟩ (.int .i64 s.rn.en)).setCell ⟨w.heap.size, 4, none⟩ (.slice B1 s.rn.cs.length d1)).setCell ⟨w.heap.size, 5, none⟩ (.slice B2 s.pe.length d2)).setCell ⟨w.heap.size, 6, none⟩ (.slice B3 s.fl.length d3)).setCell ⟨w.heap.size, 7, none⟩ (.slice B4 s.ac.length d4)).setCell ⟨w.heap.size, 8, none⟩ (.int .i64 s.fin)).setCell ⟨w.heap.size, 9, none⟩ (.int .i64 s.fi)).setCell ⟨w.heap.size, 10, none⟩ (.int .i64 s.sent)).setCell ⟨w.heap.size, 11, none⟩ (.int .i64 s.code)) = w4 at *
    obtain ⟨a0, a1, a2, a3, a4, a5, a6, a7, a8, a9, a10, a11⟩ := HO.out.1.b.cells
    go_wp2_with fail
    refine (HIS.out w4 B1 B2 B3 B4 d1 d2 d3 d4 HO.out.2.read HCD.out).mono ?_
    rintro e w5 ⟨rfl, hb5⟩
    have HO := Lib.hid (HO.out.next hb5)
    clear hb5 a0 a1 a2 a3 a4 a5 a6 a7 a8 a9 a10 a11 HIS
    obtain ⟨a0, a1, a2, a3, a4, a5, a6, a7, a8, a9, a10, a11⟩ := HO.out.1.b.cells
    clear a0 a1 a2 a3 a4 a5 a6 a7 a8 a9 a10 a11
    obtain ⟨a0, a1, a2, a3, a4, a5, a6, a7, a8, a9, a10, a11⟩ := HO.out.1.b.cells
    (try simp only at a0 a1 a2 a3 a4 a5 a6 a7 a8 a9 a10 a11)
    obtain ⟨q0, q1, q2, q3, q4, q5, q6, q7, q8, q9, q10, q11⟩ := HO.out.1.o.cells
    have qf := HO.out.1.o.free
    go_wp2
    have X := HO.out.1.out _ _ _ _ _ HO.out.2
    refine bodyPost_ret (results_ct rfl _ _ (w.heap.size + 1) _ _ _ _ rfl X.1 Try.underlying35 rfl (by kernel_rfl)) rfl ?_
    exact ⟨_, _, _, _, rfl, X.2.1, X.2.2⟩
  have hyes : decide (docSn s) = true ∧ s.st = 4 := ⟨decide_eq_true hok, h1⟩
  rw [show arS (decide (docSn s)) s = { s with st := 5 } from if_pos hyes, decide_eq_true hyes]
  rw [decide_eq_true hok] at HIS
  clear hyes hok h1
  go_enter Try.func17, Try.ntmps17
  go_upto_region 1 with fail
  generalize (w.alloc (.cells (snB s (.slice A1 s.rn.cs.length c1) (.slice A2 s.pe.length c2) (.slice A3 s.fl.length c3) (.slice A4 s.ac.length c4)) 35)).alloc (.cells (snC 0 0 0 0 (.slice none 0 0) (.slice none 0 0) (.slice none 0 0) (.slice none 0 0) 0 0 0 0) 35) = w2 at *
  obtain ⟨a0, a1, a2, a3, a4, a5, a6, a7, a8, a9, a10, a11⟩ := HH.out.b.cells
  have af := HH.out.b.free
  go_wp2_with fail
  refine (HCP.out _ HH.out.bl).mono ?_
  rintro e w3 ⟨u1, u2, u3, u4, rfl, ho, hb⟩
  have HO := Lib.hid (OrS.laid (HH.out.next hb) (ho.weaken HH.out.sz))
  have HH2 := Lib.hid (HH.out.next hb)
  obtain ⟨B1, B2, B3, B4, d1, d2, d3, d4, rfl, rfl, rfl, rfl, k1, k2, k3, k4⟩ := ho.frs
  have HCD : Hid (CapT s d2 d3 d4) := Lib.hid ⟨k2, k3, k4⟩
  clear ho hb k1 k2 k3 k4 a0 a1 a2 a3 a4 a5 a6 a7 a8 a9 a10 a11 af HCP
  obtain ⟨a0, a1, a2, a3, a4, a5, a6, a7, a8, a9, a10, a11⟩ := HH2.out.b.cells
  have af := HH2.out.b.free
  go_upto_region 2 with fail
  clear HH2 a0 a1 a2 a3 a4 a5 a6 a7 a8 a9 a10 a11 af
  generalize ((((((((((((w3.setCell ⟨w.heap.size, 0, none⟩ (.int .i64 s.st)).setCell ⟨w.heap.size, 1, none⟩ (.int .i64 s.rn.size)).setCell ⟨w.heap.size, 2, none⟩ (.int .i64 s.rn.base)).setCell ⟨w.heap.size, 3, none⟩ (.int .i64 s.rn.en)).setCell ⟨w.heap.size, 4, none⟩ (.slice B1 s.rn.cs.length d1)).setCell ⟨w.heap.size, 5, none⟩ (.slice B2 s.pe.length d2)).setCell ⟨w.heap.size, 6, none⟩ (.slice B3 s.fl.length d3)).setCell ⟨w.heap.size, 7, none⟩ (.slice B4 s.ac.length d4)).setCell ⟨w.heap.size, 8, none⟩ (.int .i64 s.fin)).setCell ⟨w.heap.size, 9, none⟩ (.int .i64 s.fi)).setCell ⟨w.heap.size, 10, none⟩ (.int .i64 s.sent)).setCell ⟨w.heap.size, 11, none⟩ (.int .i64 s.code)) = w4 at *
  obtain ⟨a0, a1, a2, a3, a4, a5, a6, a7, a8, a9, a10, a11⟩ := HO.out.1.b.cells
  go_wp2_with fail
  refine (HIS.out w4 B1 B2 B3 B4 d1 d2 d3 d4 HO.out.2.read HCD.out).mono ?_
  rintro e w5 ⟨rfl, hb5⟩
  have HO := Lib.hid (HO.out.next hb5)
  clear hb5 a0 a1 a2 a3 a4 a5 a6 a7 a8 a9 a10 a11 HIS
  obtain ⟨a0, a1, a2, a3, a4, a5, a6, a7, a8, a9, a10, a11⟩ := HO.out.1.b.cells
  have af := HO.out.1.b.free
  go_upto_region 5 with fail
  have HO := Lib.hid (HO.out.put0 5)
  clear af a0 a1 a2 a3 a4 a5 a6 a7 a8 a9 a10 a11
  generalize w5.setCell ⟨w.heap.size, 0, none⟩ (.int .i64 5) = w6 at *
  obtain ⟨a0, a1, a2, a3, a4, a5, a6, a7, a8, a9, a10, a11⟩ := HO.out.1.b.cells
  (try simp only at a0 a1 a2 a3 a4 a5 a6 a7 a8 a9 a10 a11)
  obtain ⟨q0, q1, q2, q3, q4, q5, q6, q7, q8, q9, q10, q11⟩ := HO.out.1.o.cells
  have qf := HO.out.1.o.free
  go_wp2
  have X := HO.out.1.out _ _ _ _ _ HO.out.2
  refine bodyPost_ret (results_ct rfl _ _ (w.heap.size + 1) _ _ _ _ rfl X.1 Try.underlying35 rfl (by kernel_rfl)) rfl ?_
  exact ⟨_, _, _, _, rfl, X.2.1, X.2.2⟩
end Go.Proofs.Ytjohbfdifdjldac

namespace Go.Proofs.Ytjohbfdifdjldac
open Go.RowKit Go.Deep Go.Proofs.Ytjohbfdifdjldac.Num

theorem ar_key {s : Sn} (h : s.st = 4) : docSn s ↔ okSn s := by
  unfold docSn okSn
  rw [if_pos (.inl h), if_pos (.inl h)]
theorem ar_and (s : Sn) : (decide (docSn s) = true ∧ s.st = 4) ↔ (decide (okSn s) = true ∧ s.st = 4) :=
  ⟨fun h => ⟨decide_eq_true ((ar_key h.2).1 (of_decide_eq_true h.1)), h.2⟩, fun h => ⟨decide_eq_true ((ar_key h.2).2 (of_decide_eq_true h.1)), h.2⟩⟩
theorem ar_same (s : Sn) : arS (decide (docSn s)) s = arS (decide (okSn s)) s := by
  unfold arS
  by_cases h : decide (okSn s) = true ∧ s.st = 4
  · rw [if_pos h, if_pos ((ar_and s).2 h)]
  · rw [if_neg h, if_neg (fun k => h ((ar_and s).1 k))]
theorem hsAR : ∀ (s : Sn) (A1 A2 A3 A4 : Option Addr) (c1 c2 c3 c4 B : Nat) (w : World), B ≤ w.heap.size → ReadS w B A1 A2 A3 A4 s → LenS 1048576 s → s.pe.length + s.fl.length + s.ac.length ≤ 1048576 → inI s.rn.cs ∧ InR s.pe ∧ InR s.fl ∧ InR s.ac → inSn s → Calls Try.prog 16 #[snV s (.slice A1 s.rn.cs.length c1) (.slice A2 s.pe.length c2) (.slice A3 s.fl.length c3) (.slice A4 s.ac.length c4)] w fun e w' => ∃ v1 v2 v3 v4, e = .returned (.tuple #[snV (arS (decide (okSn s)) s) v1 v2 v3 v4, .bool (decide (decide (okSn s) = true ∧ s.st = 4))]) ∧ OwnSn w' w.heap.size v1 v2 v3 v4 (arS (decide (okSn s)) s) ∧ Below w.heap.size w w' :=
  fun s A1 A2 A3 A4 c1 c2 c3 c4 B w h1 h2 h3 _ _ h6 => sackrs s A1 A2 A3 A4 c1 c2 c3 c4 B w h1 h2 (h3.up (by decide)) h6
theorem hiAR : ∀ (s : Sn) (A1 A2 A3 A4 : Option Addr) (c1 c2 c3 c4 B : Nat) (w : World), B ≤ w.heap.size → ReadS w B A1 A2 A3 A4 s → LenS 1048576 s → s.pe.length + s.fl.length + s.ac.length ≤ 1048576 → inI s.rn.cs ∧ InR s.pe ∧ InR s.fl ∧ InR s.ac → inSn s → Calls Try.prog 17 #[snV s (.slice A1 s.rn.cs.length c1) (.slice A2 s.pe.length c2) (.slice A3 s.fl.length c3) (.slice A4 s.ac.length c4)] w fun e w' => ∃ v1 v2 v3 v4, e = .returned (.tuple #[snV (arS (decide (okSn s)) s) v1 v2 v3 v4, .bool (decide (decide (okSn s) = true ∧ s.st = 4))]) ∧ OwnSn w' w.heap.size v1 v2 v3 v4 (arS (decide (okSn s)) s) ∧ Below w.heap.size w w' := by
  intro s A1 A2 A3 A4 c1 c2 c3 c4 B w h1 h2 h3 h4 _ h6
  have h := iackrs s A1 A2 A3 A4 c1 c2 c3 c4 B w h1 h2 (h3.up (by decide)) h4 h6
  rw [ar_same, decide_eq_decide.2 (ar_and s)] at h
  exact h
end Go.Proofs.Ytjohbfdifdjldac

namespace Go.Proofs.Ytjohbfdifdjldac
open Go.RowKit Go.Deep Go.Proofs.Ytjohbfdifdjldac.Num Go.ChangeShapes Go.WideShapes Go.Joins Go.ChangeAt

theorem wfN_int {a : Int} (h : (Lit.int .i64 a).wf = true) : -9223372036854775808 ≤ a ∧ a ≤ 9223372036854775807 := by
  simp [Lit.wf, IntKind.min, IntKind.max, IntKind.signed, IntKind.bits] at h
  omega
theorem addN_off (b off k : Nat) : (⟨b, off, none⟩ : Addr).add k = ⟨b, off + k, none⟩ := by
  unfold Addr.add
  split <;> simp_all
theorem listN4 {α : Type} {l : List α} (h : l.length = 4) : ∃ c0 c1 c2 c3, l = [c0, c1, c2, c3] := by
  match l, h with
  | [c0, c1, c2, c3], _ => exact ⟨c0, c1, c2, c3, rfl⟩
theorem arrayN4 {α : Type} {cs : Array α} (h : cs.size = 4) : ∃ c0 c1 c2 c3, cs = #[c0, c1, c2, c3] := by
  obtain ⟨l⟩ := cs
  match l, h with
  | [c0, c1, c2, c3], _ => exact ⟨c0, c1, c2, c3, rfl⟩
set_option maxRecDepth 100000 in
/-- One cell that reads as a slice of ints. -/
theorem ints_of_cell {H : Type} {enc : TypeId × Value → H} {w : World} {base : Nat} {held : Bool} {fuel : Nat} {v : Value} {x : DataW H × List MemPlace}
    (hf : DataW.trod enc Try.prog w base (fun _ => true) held fuel 22 [v] = some x) :
    ∃ (a : Option Addr) (cap : Nat) (l : List Int), v = .slice a l.length cap ∧ l.length ≤ maxLen ∧ Ints w w.heap.size a l ∧ inI l := by
  rcases open_ints Try.underlying22 Try.underlying3 (by kernel_rfl) hf with ⟨hcs, _⟩ | ⟨x, len, cap, zs, hcs, _, hl, hm, hz, _, hc, hw⟩
  · simp at hcs
    exact ⟨none, 0, [], hcs, by decide, Ints.nil, fun c hc => by cases hc⟩
  · simp at hcs
    subst hcs
    have hz' : zs.length = cap := by simpa using hz
    have hlt : (zs.take len).length = len := by rw [List.length_take]; omega
    refine ⟨some x, cap, zs.take len, by rw [hlt], by rw [hlt]; exact Nat.le_trans hl hm, fun j hj => ?_, fun z hz2 => wfN_int (hw z (List.mem_of_mem_take hz2))⟩
    have hj2 : j < len := by omega
    obtain ⟨b, off, spot⟩ := x
    have hs : spot = none := by simpa [Addr.add] using World.cell?_spot (hc 0 (by omega))
    subst hs
    have h0 := hc j (by omega)
    have hj' : j < zs.length := by omega
    rw [addN_off, show zs.getD j 0 = zs[j] from by simp [List.getD, hj']] at h0
    exact ⟨b, off, rfl, block_lt_of_cell h0, by rw [h0, List.getElem_take]⟩
set_option maxRecDepth 100000 in
/-- A ring that came in. -/
theorem rn_of_trod {H : Type} {enc : TypeId × Value → H} {w : World} {base b0 : Nat} {held : Bool} {r : Reach} {v : Value} {d : DataW H} {p : List MemPlace}
    (hv : Value.okWide Try.prog w r b0 24 v) (h : DataW.Trod enc Try.prog w base (fun _ => true) held 24 v d p) :
    ∃ (x : Rn) (a : Option Addr) (cap : Nat), v = rnV x (.slice a x.cs.length cap) ∧ Ints w w.heap.size a x.cs ∧ x.cs.length ≤ maxLen ∧ inI x.cs ∧ inRn x := by
  obtain ⟨cs, rfl, hsz⟩ := okWide_struct Try.underlying24 hv
  obtain ⟨c0, c1, c2, c3, rfl⟩ := arrayN4 (hsz.trans (by kernel_rfl))
  obtain ⟨fuel, hf⟩ := h
  obtain ⟨xs, n, _, hx, hl2, hlen, hfld⟩ := DataW.trod_struct Try.underlying24 hf
  obtain ⟨y0, y1, y2, y3, rfl⟩ := listN4 hlen
  have k3 : Try.prog.cellsOf 3 = 1 := by kernel_rfl
  have k9 : Try.prog.cellsOf 22 = 1 := by kernel_rfl
  have h0 : DataW.trod enc Try.prog w base (fun _ => true) held n 3 [c0] = some y0 := by have := hfld 0 _ rfl; simpa [k3, Value.cells] using this
  have h1 : DataW.trod enc Try.prog w base (fun _ => true) held n 3 [c1] = some y1 := by have := hfld 1 _ rfl; simpa [k3, Value.cells] using this
  have h2 : DataW.trod enc Try.prog w base (fun _ => true) held n 3 [c2] = some y2 := by have := hfld 2 _ rfl; simpa [k3, Value.cells] using this
  have h3 : DataW.trod enc Try.prog w base (fun _ => true) held n 22 [c3] = some y3 := by have := hfld 3 _ rfl; simpa [k3, k9, Value.cells] using this
  clear hfld hx hl2 hlen hf
  obtain ⟨m0, e0, _, w0⟩ := DataW.trod_int Try.underlying3 h0
  injection e0 with e0 _
  subst e0
  obtain ⟨m1, e1, _, w1⟩ := DataW.trod_int Try.underlying3 h1
  injection e1 with e1 _
  subst e1
  obtain ⟨m2, e2, _, w2⟩ := DataW.trod_int Try.underlying3 h2
  injection e2 with e2 _
  subst e2
  obtain ⟨a, cap, l, rfl, g1, g2, g3⟩ := ints_of_cell h3
  exact ⟨⟨m0, m1, m2, l⟩, a, cap, rfl, g2, g1, g3, wfN_int w0, wfN_int w1, wfN_int w2⟩
end Go.Proofs.Ytjohbfdifdjldac

namespace Go.Proofs.Ytjohbfdifdjldac
open Go.RowKit Go.Deep Go.Proofs.Ytjohbfdifdjldac.Num Go.ChangeShapes Go.WideShapes Go.Joins Go.ChangeAt

theorem listS2 {α : Type} {l : List α} (h : l.length = 2) : ∃ c0 c1, l = [c0, c1] := by
  match l, h with
  | [c0, c1], _ => exact ⟨c0, c1, rfl⟩
theorem listS9 {α : Type} {l : List α} (h : l.length = 9) : ∃ c0 c1 c2 c3 c4 c5 c6 c7 c8, l = [c0, c1, c2, c3, c4, c5, c6, c7, c8] := by
  match l, h with
  | [c0, c1, c2, c3, c4, c5, c6, c7, c8], _ => exact ⟨c0, c1, c2, c3, c4, c5, c6, c7, c8, rfl⟩
theorem arrayS12 {α : Type} {cs : Array α} (h : cs.size = 12) : ∃ c0 c1 c2 c3 c4 c5 c6 c7 c8 c9 c10 c11, cs = #[c0, c1, c2, c3, c4, c5, c6, c7, c8, c9, c10, c11] := by
  obtain ⟨l⟩ := cs
  match l, h with
  | [c0, c1, c2, c3, c4, c5, c6, c7, c8, c9, c10, c11], _ => exact ⟨c0, c1, c2, c3, c4, c5, c6, c7, c8, c9, c10, c11, rfl⟩
/-- A range's cells. -/
def rgL (c : Rg) : List Value := [.int .i64 c.1, .int .i64 c.2]
set_option maxRecDepth 100000 in
/-- Two cells that read as a range are one. -/
theorem rgS_cells {H : Type} {enc : TypeId × Value → H} {w : World} {base : Nat} {sp : Nat → Bool} {held : Bool} {fuel : Nat} {cs : List Value} {x : DataW H × List MemPlace} (hl : cs.length = 2)
    (hf : DataW.trod enc Try.prog w base sp held fuel 91 cs = some x) : ∃ c : Rg, cs = rgL c ∧ (-9223372036854775808 ≤ c.1 ∧ c.1 ≤ 9223372036854775807) ∧ -9223372036854775808 ≤ c.2 ∧ c.2 ≤ 9223372036854775807 := by
  obtain ⟨c0, c1, rfl⟩ := listS2 hl
  obtain ⟨xs, n, _, hx, hl2, hlen, hfld⟩ := DataW.trod_struct Try.underlying91 hf
  obtain ⟨y0, y1, rfl⟩ := listS2 hlen
  have k3 : Try.prog.cellsOf 3 = 1 := by kernel_rfl
  have h0 : DataW.trod enc Try.prog w base sp held n 3 [c0] = some y0 := by have := hfld 0 _ rfl; simpa [k3] using this
  have h1 : DataW.trod enc Try.prog w base sp held n 3 [c1] = some y1 := by have := hfld 1 _ rfl; simpa [k3] using this
  clear hfld hx hl2 hlen hf
  obtain ⟨m0, e0, _, w0⟩ := DataW.trod_int Try.underlying3 h0
  injection e0 with e0 _
  subst e0
  obtain ⟨m1, e1, _, w1⟩ := DataW.trod_int Try.underlying3 h1
  injection e1 with e1 _
  subst e1
  exact ⟨(m0, m1), rfl, wfN_int w0, wfN_int w1⟩
set_option maxRecDepth 100000 in
/-- One cell that reads as a slice of chunks. -/
theorem rgsS_of_cell {H : Type} {enc : TypeId × Value → H} {w : World} {base : Nat} {held : Bool} {fuel : Nat} {v : Value} {x : DataW H × List MemPlace}
    (hf : DataW.trod enc Try.prog w base (fun _ => true) held fuel 25 [v] = some x) :
    ∃ (a : Option Addr) (cap : Nat) (l : List Rg), v = .slice a l.length cap ∧ l.length ≤ maxLen ∧ Rgs w w.heap.size a l ∧ InR l := by
  rcases open_slice Try.underlying25 hf with ⟨hcs, _⟩ | ⟨x, len, cap, m, n, D, Pl, hcs, _, hl, hm, hmm, _, hcell⟩
  · simp at hcs
    exact ⟨none, 0, [], hcs, by decide, Rgs.nil, fun c hc => by cases hc⟩
  · simp at hcs
    subst hcs
    have hmc : m = cap := by simpa using hmm
    subst hmc
    have c2 : Try.prog.cellsOf 91 = 2 := by kernel_rfl
    have hall : ∀ i, i < len → ∃ c : Rg, (∀ k, k < 2 → w.cell? (x.add (i * 2 + k)) = (rgL c)[k]?) ∧ (-9223372036854775808 ≤ c.1 ∧ c.1 ≤ 9223372036854775807) ∧ -9223372036854775808 ≤ c.2 ∧ c.2 ≤ 9223372036854775807 := by
      intro i hi
      obtain ⟨cs', h1, h2⟩ := hcell i (by omega)
      rw [c2] at h1
      obtain ⟨_, hlen, hc⟩ := World.cells?_some h1
      obtain ⟨c, rfl, hs⟩ := rgS_cells hlen h2
      refine ⟨c, fun k hk => ?_, hs⟩
      have := hc k hk
      rw [add_add] at this
      exact this
    have hsome : ∀ k, k ≤ len → ∃ l : List Rg, l.length = k ∧ ∀ i (hi : i < l.length), (∀ k, k < 2 → w.cell? (x.add (i * 2 + k)) = (rgL l[i])[k]?) ∧ (-9223372036854775808 ≤ l[i].1 ∧ l[i].1 ≤ 9223372036854775807) ∧ -9223372036854775808 ≤ l[i].2 ∧ l[i].2 ≤ 9223372036854775807 := by
      intro k
      induction k with
      | zero => intro _; exact ⟨[], rfl, fun i hi => by cases hi⟩
      | succ k ih =>
        intro hk
        obtain ⟨l, rfl, hl⟩ := ih (by omega)
        obtain ⟨y, hy⟩ := hall l.length (by omega)
        refine ⟨l ++ [y], by simp, fun i hi => ?_⟩
        by_cases hil : i < l.length
        · rw [List.getElem_append_left hil]
          exact hl i hil
        · have e : i = l.length := by simp at hi; omega
          subst e
          simpa using hy
    obtain ⟨l, hlen, hl2⟩ := hsome len (Nat.le_refl _)
    subst hlen
    refine ⟨some x, m, l, rfl, Nat.le_trans hl hm, fun j hj => ?_, fun y hy => ?_⟩
    · obtain ⟨h0, _⟩ := hl2 j hj
      obtain ⟨b, off, spot⟩ := x
      have h00 : w.cell? ((⟨b, off, spot⟩ : Addr).add (0 * 2 + 0)) = some (.int .i64 (l[0]'(by omega)).1) := (hl2 0 (by omega)).1 0 (by omega)
      have hs : spot = none := by simpa [Addr.add] using World.cell?_spot h00
      subst hs
      have hk : ∀ i, i < 2 → w.cell? ⟨b, off + j * 2 + i, none⟩ = (rgL l[j])[i]? := fun i hi => by
        have := h0 i hi
        rw [addN_off, ← Nat.add_assoc] at this
        exact this
      refine ⟨b, off, rfl, ?_, hk 0 (by omega), hk 1 (by omega)⟩
      exact Nat.lt_of_not_le fun hle => by
        have h1 := hk 0 (by omega)
        have : w.cell? ⟨b, off + j * 2 + 0, none⟩ = none := by simp [World.cell?, Array.getElem?_eq_none hle]
        rw [this] at h1
        simp [rgL] at h1
    · obtain ⟨i, hi, rfl⟩ := List.getElem_of_mem hy
      exact (hl2 i hi).2
set_option maxRecDepth 100000 in
/-- Four cells that read as a ring are one. -/
theorem rn_cells {H : Type} {enc : TypeId × Value → H} {w : World} {base : Nat} {held : Bool} {fuel : Nat} {c0 c1 c2 c3 : Value} {x : DataW H × List MemPlace}
    (hf : DataW.trod enc Try.prog w base (fun _ => true) held fuel 24 [c0, c1, c2, c3] = some x) :
    ∃ (x : Rn) (a : Option Addr) (cap : Nat), c0 = .int .i64 x.size ∧ c1 = .int .i64 x.base ∧ c2 = .int .i64 x.en ∧ c3 = .slice a x.cs.length cap ∧ Ints w w.heap.size a x.cs ∧ x.cs.length ≤ maxLen ∧ inI x.cs ∧ inRn x := by
  obtain ⟨xs, n, _, hx, hl2, hlen, hfld⟩ := DataW.trod_struct Try.underlying24 hf
  obtain ⟨y0, y1, y2, y3, rfl⟩ := listN4 hlen
  have k3 : Try.prog.cellsOf 3 = 1 := by kernel_rfl
  have k9 : Try.prog.cellsOf 22 = 1 := by kernel_rfl
  have h0 : DataW.trod enc Try.prog w base (fun _ => true) held n 3 [c0] = some y0 := by have := hfld 0 _ rfl; simpa [k3, Value.cells] using this
  have h1 : DataW.trod enc Try.prog w base (fun _ => true) held n 3 [c1] = some y1 := by have := hfld 1 _ rfl; simpa [k3, Value.cells] using this
  have h2 : DataW.trod enc Try.prog w base (fun _ => true) held n 3 [c2] = some y2 := by have := hfld 2 _ rfl; simpa [k3, Value.cells] using this
  have h3 : DataW.trod enc Try.prog w base (fun _ => true) held n 22 [c3] = some y3 := by have := hfld 3 _ rfl; simpa [k3, k9, Value.cells] using this
  clear hfld hx hl2 hlen hf
  obtain ⟨m0, e0, _, w0⟩ := DataW.trod_int Try.underlying3 h0
  injection e0 with e0 _
  subst e0
  obtain ⟨m1, e1, _, w1⟩ := DataW.trod_int Try.underlying3 h1
  injection e1 with e1 _
  subst e1
  obtain ⟨m2, e2, _, w2⟩ := DataW.trod_int Try.underlying3 h2
  injection e2 with e2 _
  subst e2
  obtain ⟨a, cap, l, rfl, g1, g2, g3⟩ := ints_of_cell h3
  exact ⟨⟨m0, m1, m2, l⟩, a, cap, rfl, rfl, rfl, rfl, g2, g1, g3, wfN_int w0, wfN_int w1, wfN_int w2⟩
set_option maxRecDepth 100000 in
/-- A sender that came in. -/
theorem sn_of_trod {H : Type} {enc : TypeId × Value → H} {w : World} {base b0 : Nat} {held : Bool} {r : Reach} {v : Value} {d : DataW H} {p : List MemPlace}
    (hv : Value.okWide Try.prog w r b0 27 v) (h : DataW.Trod enc Try.prog w base (fun _ => true) held 27 v d p) :
    ∃ (s : Sn) (A1 A2 A3 A4 : Option Addr) (c1 c2 c3 c4 : Nat), v = snV s (.slice A1 s.rn.cs.length c1) (.slice A2 s.pe.length c2) (.slice A3 s.fl.length c3) (.slice A4 s.ac.length c4) ∧ ReadS w w.heap.size A1 A2 A3 A4 s ∧
      (s.rn.cs.length ≤ maxLen ∧ s.pe.length ≤ maxLen ∧ s.fl.length ≤ maxLen ∧ s.ac.length ≤ maxLen) ∧ (inI s.rn.cs ∧ InR s.pe ∧ InR s.fl ∧ InR s.ac) ∧ inSn s := by
  obtain ⟨cs, rfl, hsz⟩ := okWide_struct Try.underlying27 hv
  obtain ⟨c0, c1, c2, c3, c4, c5, c6, c7, c8, c9, c10, c11, rfl⟩ := arrayS12 (hsz.trans (by kernel_rfl))
  obtain ⟨fuel, hf⟩ := h
  obtain ⟨xs, n, _, hx, hl2, hlen, hfld⟩ := DataW.trod_struct Try.underlying27 hf
  obtain ⟨y0, y1, y2, y3, y4, y5, y6, y7, y8, rfl⟩ := listS9 hlen
  have k3 : Try.prog.cellsOf 3 = 1 := by kernel_rfl
  have k4 : Try.prog.cellsOf 24 = 4 := by kernel_rfl
  have k9 : Try.prog.cellsOf 25 = 1 := by kernel_rfl
  have h0 : DataW.trod enc Try.prog w base (fun _ => true) held n 3 [c0] = some y0 := by have := hfld 0 _ rfl; simpa [k3, Value.cells] using this
  have h1 : DataW.trod enc Try.prog w base (fun _ => true) held n 24 [c1, c2, c3, c4] = some y1 := by have := hfld 1 _ rfl; simpa [k4, Value.cells] using this
  have h2 : DataW.trod enc Try.prog w base (fun _ => true) held n 25 [c5] = some y2 := by have := hfld 2 _ rfl; simpa [k9, Value.cells] using this
  have h3 : DataW.trod enc Try.prog w base (fun _ => true) held n 25 [c6] = some y3 := by have := hfld 3 _ rfl; simpa [k9, Value.cells] using this
  have h4 : DataW.trod enc Try.prog w base (fun _ => true) held n 25 [c7] = some y4 := by have := hfld 4 _ rfl; simpa [k9, Value.cells] using this
  have h5 : DataW.trod enc Try.prog w base (fun _ => true) held n 3 [c8] = some y5 := by have := hfld 5 _ rfl; simpa [k3, Value.cells] using this
  have h6 : DataW.trod enc Try.prog w base (fun _ => true) held n 3 [c9] = some y6 := by have := hfld 6 _ rfl; simpa [k3, Value.cells] using this
  have h7 : DataW.trod enc Try.prog w base (fun _ => true) held n 3 [c10] = some y7 := by have := hfld 7 _ rfl; simpa [k3, Value.cells] using this
  have h8 : DataW.trod enc Try.prog w base (fun _ => true) held n 3 [c11] = some y8 := by have := hfld 8 _ rfl; simpa [k3, Value.cells] using this
  clear hfld hx hl2 hlen hf
  obtain ⟨m0, e0, _, w0⟩ := DataW.trod_int Try.underlying3 h0
  injection e0 with e0 _
  subst e0
  obtain ⟨m5, e5, _, w5⟩ := DataW.trod_int Try.underlying3 h5
  injection e5 with e5 _
  subst e5
  obtain ⟨m6, e6, _, w6⟩ := DataW.trod_int Try.underlying3 h6
  injection e6 with e6 _
  subst e6
  obtain ⟨m7, e7, _, w7⟩ := DataW.trod_int Try.underlying3 h7
  injection e7 with e7 _
  subst e7
  obtain ⟨m8, e8, _, w8⟩ := DataW.trod_int Try.underlying3 h8
  injection e8 with e8 _
  subst e8
  obtain ⟨r, A1, q1, rfl, rfl, rfl, rfl, r1, r2, r3, r4⟩ := rn_cells h1
  obtain ⟨A2, q2, l2, rfl, a1, a2, a3⟩ := rgsS_of_cell h2
  obtain ⟨A3, q3, l3, rfl, b1, b2, b3⟩ := rgsS_of_cell h3
  obtain ⟨A4, q4, l4, rfl, d1, d2, d3⟩ := rgsS_of_cell h4
  exact ⟨⟨m0, r, l2, l3, l4, m5, m6, m7, m8⟩, A1, A2, A3, A4, q1, q2, q3, q4, rfl, ⟨r1, a2, b2, d2⟩, ⟨r2, a1, b1, d1⟩, ⟨r3, a3, b3, d3⟩, wfN_int w0, r4, wfN_int w5, wfN_int w6, wfN_int w7, wfN_int w8⟩
end Go.Proofs.Ytjohbfdifdjldac

namespace Go.Proofs.Ytjohbfdifdjldac
open Go.RowKit Go.Deep Go.Proofs.Ytjohbfdifdjldac.Num

theorem code_of_row {w : World} {a : Option Addr} {len cap : Nat} {zs : List Int}
    (h : (a = none ∧ len = 0 ∧ cap = 0 ∧ zs = []) ∨
      ∃ x, a = some x ∧ len ≤ cap ∧ cap ≤ maxLen ∧ zs.length = cap ∧ (∀ i, i < zs.length → w.cell? (x.add i) = some (.int .u8 (zs.getD i 0))) ∧ ∀ n ∈ zs, (Lit.int .u8 n).wf = true) :
    len ≤ maxLen ∧ Code w w.heap.size a len := by
  rcases h with ⟨rfl, rfl, _, _⟩ | ⟨x, rfl, hl, hm, hz, hc, hw⟩
  · exact ⟨by decide, fun j hj => absurd hj (by omega)⟩
  · refine ⟨Nat.le_trans hl hm, fun j hj => ?_⟩
    obtain ⟨b, off, spot⟩ := x
    have hs : spot = none := by simpa [Addr.add] using World.cell?_spot (hc 0 (by omega))
    subst hs
    have h0 := hc j (by omega)
    have e : (⟨b, off, none⟩ : Addr).add j = ⟨b, off + j, none⟩ := by
      unfold Addr.add
      split <;> simp_all
    rw [e] at h0
    have hj' : j < zs.length := by omega
    have hwf := hw (zs.getD j 0) (by rw [show zs.getD j 0 = zs[j] from by simp [List.getD, hj']]; exact List.getElem_mem hj')
    have hb : 0 ≤ zs.getD j 0 ∧ zs.getD j 0 ≤ 255 := by
      simp [Lit.wf, IntKind.min, IntKind.max, IntKind.signed, IntKind.bits] at hwf
      simp
      omega
    exact ⟨b, off, _, rfl, block_lt_of_cell h0, hb.1, hb.2, h0⟩
end Go.Proofs.Ytjohbfdifdjldac
