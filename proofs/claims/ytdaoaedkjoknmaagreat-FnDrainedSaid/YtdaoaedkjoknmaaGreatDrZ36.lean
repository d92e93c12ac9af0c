/-
  Contracts and lemmas for the law on draining.
-/
import Derived.Test.YtdaoaedkjoknmaaGreatDrZ0
import Derived.Test.YtdaoaedkjoknmaaGreatDrZ35
import Derived.Test.YtdaoaedkjoknmaaGreatDrZ10
set_option maxRecDepth 1000000
set_option maxHeartbeats 8000000
namespace Go.Proofs.YtdaoaedkjoknmaaGreat
open Go.RowKit Go.Deep Go.Proofs.YtdaoaedkjoknmaaGreat.Num

theorem ReadS.t {w : World} {B : Nat} {A1 A2 A3 A4 : Option Addr} {s : Sn} (h : ReadS w B A1 A2 A3 A4 s) : ReadT w B A2 A3 A4 s := h.2
theorem ReadT.below {w w' : World} {B K : Nat} {A2 A3 A4 : Option Addr} {s : Sn} (h : ReadT w B A2 A3 A4 s) (hK : B ≤ K) (hb : Below K w w') : ReadT w' B A2 A3 A4 s := ⟨h.1.below hK hb, h.2.1.below hK hb, h.2.2.below hK hb⟩
def InBT (w : World) (s : Sn) (v1 v2 v3 v4 : Value) (g : Nat) (W : World) : Prop := InBS w s v1 v2 v3 v4 W ∧ (W.cell? ⟨g, 0, none⟩ = some v2 ∧ W.cell? ⟨g, 1, none⟩ = some v3 ∧ W.cell? ⟨g, 2, none⟩ = some v4) ∧ g < W.heap.size
theorem InBT.start {w : World} {s : Sn} {v1 v2 v3 v4 : Value} {W : World} (h : InBS w s v1 v2 v3 v4 W) (t : TypeId) : InBT w s v1 v2 v3 v4 W.heap.size (W.alloc (.cells #[v2, v3, v4] t)) :=
  ⟨h.next ((Below.refl _ _).alloc (Nat.le_refl _) _), cell_alloc3 W v2 v3 v4 t, by simp⟩
theorem InBT.next {w : World} {s : Sn} {v1 v2 v3 v4 : Value} {g : Nat} {W W' : World} (h : InBT w s v1 v2 v3 v4 g W) (hb : Below W.heap.size W W') : InBT w s v1 v2 v3 v4 g W' :=
  ⟨h.1.next hb, ⟨(hb.cell (p := ⟨g, 0, none⟩) h.2.2).trans h.2.1.1, (hb.cell (p := ⟨g, 1, none⟩) h.2.2).trans h.2.1.2.1, (hb.cell (p := ⟨g, 2, none⟩) h.2.2).trans h.2.1.2.2⟩, Nat.lt_of_lt_of_le h.2.2 hb.size⟩
theorem iissn (s : Sn) (A1 A2 A3 A4 : Option Addr) (c1 c2 c3 c4 B : Nat) (w : World) (hB : B ≤ w.heap.size) (hr : ReadS w B A1 A2 A3 A4 s) (hn : LenS 1000000000 s) (hn2 : LenT s) (hc : CapT s c2 c3 c4) (hx : inRn s.rn) :
    Calls Tryz.prog 24 #[snV s (.slice A1 s.rn.cs.length c1) (.slice A2 s.pe.length c2) (.slice A3 s.fl.length c3) (.slice A4 s.ac.length c4)] w fun e w' => e = .returned (.bool (decide (docSn s))) ∧ Below w.heap.size w w' := by
  have HH := LH (InBS.start w s (.slice A1 s.rn.cs.length c1) (.slice A2 s.pe.length c2) (.slice A3 s.fl.length c3) (.slice A4 s.ac.length c4))
  have HSO : Hid (∀ W, Below w.heap.size w W → Calls Tryz.prog 38 #[snV s (.slice A1 s.rn.cs.length c1) (.slice A2 s.pe.length c2) (.slice A3 s.fl.length c3) (.slice A4 s.ac.length c4)] W fun e w' => e = .returned (.agg #[.slice A2 s.pe.length c2, .slice A3 s.fl.length c3, .slice A4 s.ac.length c4]) ∧ Below W.heap.size W w') := LH fun W h => isetsof s _ A2 A3 A4 _ c2 _ c3 _ c4 W
  have HRN : Hid (∀ W, Below w.heap.size w W → Calls Tryz.prog 72 #[rnV s.rn (.slice A1 s.rn.cs.length c1)] W fun e w' => e = .returned (.bool (decide (okRn s.rn))) ∧ Below W.heap.size W w') := LH fun W h => iisrn s.rn A1 c1 B W (Nat.le_trans hB h.size) (hr.1.below hB h) (Nat.le_trans hn.1 (by decide)) hx
  have HBV : Hid (∀ W, Below w.heap.size w W → Calls Tryz.prog 73 #[.agg #[.slice A2 s.pe.length c2, .slice A3 s.fl.length c3, .slice A4 s.ac.length c4]] W fun e w' => e = .returned (.bool (decide (okR (-1) s.pe ∧ okR (-1) s.fl ∧ okR (-1) s.ac))) ∧ Below W.heap.size W w') := LH fun W h => isbv s A2 A3 A4 c2 c3 c4 B W (Nat.le_trans hB h.size) (hr.t.below hB h) hn2
  have HBE : Hid (∀ W, Below w.heap.size w W → Calls Tryz.prog 74 #[.agg #[.slice A2 s.pe.length c2, .slice A3 s.fl.length c3, .slice A4 s.ac.length c4]] W fun e w' => e = .returned (.bool (decide (s.pe = [] ∧ s.fl = [] ∧ s.ac = []))) ∧ Below W.heap.size W w') := LH fun W h => isbe s A2 A3 A4 c2 c3 c4 W
  have HGV : Hid (∀ W, Below w.heap.size w W → Calls Tryz.prog 75 #[snV s (.slice A1 s.rn.cs.length c1) (.slice A2 s.pe.length c2) (.slice A3 s.fl.length c3) (.slice A4 s.ac.length c4)] W fun e w' => e = .returned (.bool (decide (s.rn.base = s.rn.en ∧ s.sent = s.rn.en ∧ s.fin = s.rn.en ∧ s.fi = 0))) ∧ Below W.heap.size W w') := LH fun W h => igiven s _ _ _ _ W
  have HDV : Hid (okR (-1) s.pe ∧ okR (-1) s.fl ∧ okR (-1) s.ac → ∀ W, Below w.heap.size w W → Calls Tryz.prog 76 #[.agg #[.slice A2 s.pe.length c2, .slice A3 s.fl.length c3, .slice A4 s.ac.length c4], .int .i64 s.rn.en] W fun e w' => e = .returned (.bool (decide (divS s))) ∧ Below W.heap.size W w') := LH fun hk W h => isbdiv s A2 A3 A4 c2 c3 c4 B W (Nat.le_trans hB h.size) (hr.t.below hB h) hn2 hc hk
  have HAG : Hid (okR (-1) s.ac → ∀ W, Below w.heap.size w W → Calls Tryz.prog 77 #[.agg #[.slice A2 s.pe.length c2, .slice A3 s.fl.length c3, .slice A4 s.ac.length c4], snV s (.slice A1 s.rn.cs.length c1) (.slice A2 s.pe.length c2) (.slice A3 s.fl.length c3) (.slice A4 s.ac.length c4)] W fun e w' => e = .returned (.bool (decide (agrS s))) ∧ Below W.heap.size W w') := LH fun hk W h => isbag _ s A2 A3 A4 c2 c3 c4 B W (Nat.le_trans hB h.size) (hr.t.below hB h) hn2 hk
  have HAF : Hid (0 ≤ s.fi ∧ s.fi ≤ 3 → ∀ W, Below w.heap.size w W → Calls Tryz.prog 78 #[snV s (.slice A1 s.rn.cs.length c1) (.slice A2 s.pe.length c2) (.slice A3 s.fl.length c3) (.slice A4 s.ac.length c4)] W fun e w' => e = .returned (.bool (decide (afnS s))) ∧ Below W.heap.size W w') := LH fun hk W h => iagf s _ _ _ _ W hk
  clear hr hn hn2 hc hx
  by_cases h0 : okRn s.rn
  rotate_left
  · have HV : Hid (decide (docSn s) = false) := LH (decide_eq_false (fun k => h0 k.1.1))
    rw [decide_eq_false h0] at HRN
    clear h0 HBV HBE HGV HDV HAG HAF
    go_enter Tryz.func24, Tryz.ntmps24
    obtain ⟨a0, a1, a2, a3, a4, a5, a6, a7, a8, a9, a10, a11⟩ := HH.out.1.cells
    go_wp2_with fail
    refine (HSO.out _ HH.out.2).mono ?_
    rintro e w1 ⟨rfl, hb1⟩
    have HH := LH (InBT.start (HH.out.next hb1) 75)
    clear hb1 a0 a1 a2 a3 a4 a5 a6 a7 a8 a9 a10 a11
    go_upto_region 2 with fail
    generalize w1.alloc (.cells #[.slice A2 s.pe.length c2, .slice A3 s.fl.length c3, .slice A4 s.ac.length c4] 75) = w2 at *
    generalize w1.heap.size = g at *
    obtain ⟨a0, a1, a2, a3, a4, a5, a6, a7, a8, a9, a10, a11⟩ := HH.out.1.1.cells
    obtain ⟨t0, t1, t2⟩ := HH.out.2.1
    go_wp2_with fail
    refine (HRN.out _ HH.out.1.2).mono ?_
    rintro e w1 ⟨rfl, hb1⟩
    have HH := LH (HH.out.next hb1)
    clear hb1 a0 a1 a2 a3 a4 a5 a6 a7 a8 a9 a10 a11 t0 t1 t2
    obtain ⟨a0, a1, a2, a3, a4, a5, a6, a7, a8, a9, a10, a11⟩ := HH.out.1.1.cells
    obtain ⟨t0, t1, t2⟩ := HH.out.2.1
    go_wp2
    go_ret
    exact ⟨by rw [HV.out]; rfl, HH.out.1.2⟩
  rw [decide_eq_true h0] at HRN
  by_cases h1 : okR (-1) s.pe ∧ okR (-1) s.fl ∧ okR (-1) s.ac
  rotate_left
  · have HV : Hid (decide (docSn s) = false) := LH (decide_eq_false (fun k => h1 ⟨k.1.2.1, k.1.2.2.1, k.1.2.2.2.1⟩))
    rw [decide_eq_false h1] at HBV
    clear h0 h1 HBE HGV HDV HAG HAF
    go_enter Tryz.func24, Tryz.ntmps24
    obtain ⟨a0, a1, a2, a3, a4, a5, a6, a7, a8, a9, a10, a11⟩ := HH.out.1.cells
    go_wp2_with fail
    refine (HSO.out _ HH.out.2).mono ?_
    rintro e w1 ⟨rfl, hb1⟩
    have HH := LH (InBT.start (HH.out.next hb1) 75)
    clear hb1 a0 a1 a2 a3 a4 a5 a6 a7 a8 a9 a10 a11
    go_upto_region 2 with fail
    generalize w1.alloc (.cells #[.slice A2 s.pe.length c2, .slice A3 s.fl.length c3, .slice A4 s.ac.length c4] 75) = w2 at *
    generalize w1.heap.size = g at *
    obtain ⟨a0, a1, a2, a3, a4, a5, a6, a7, a8, a9, a10, a11⟩ := HH.out.1.1.cells
    obtain ⟨t0, t1, t2⟩ := HH.out.2.1
    go_wp2_with fail
    refine (HRN.out _ HH.out.1.2).mono ?_
    rintro e w1 ⟨rfl, hb1⟩
    have HH := LH (HH.out.next hb1)
    clear hb1 a0 a1 a2 a3 a4 a5 a6 a7 a8 a9 a10 a11 t0 t1 t2
    obtain ⟨a0, a1, a2, a3, a4, a5, a6, a7, a8, a9, a10, a11⟩ := HH.out.1.1.cells
    obtain ⟨t0, t1, t2⟩ := HH.out.2.1
    go_wp2_with fail
    refine (HBV.out _ HH.out.1.2).mono ?_
    rintro e w1 ⟨rfl, hb1⟩
    have HH := LH (HH.out.next hb1)
    clear hb1 a0 a1 a2 a3 a4 a5 a6 a7 a8 a9 a10 a11 t0 t1 t2
    obtain ⟨a0, a1, a2, a3, a4, a5, a6, a7, a8, a9, a10, a11⟩ := HH.out.1.1.cells
    obtain ⟨t0, t1, t2⟩ := HH.out.2.1
    go_wp2
    go_ret
    exact ⟨by rw [HV.out]; rfl, HH.out.1.2⟩
  rw [decide_eq_true h1] at HBV
  by_cases n0 : s.sent < 0
  · have HV : Hid (decide (docSn s) = false) := LH (decide_eq_false (fun h => by have := h.1.2.2.2.2.1; omega))
    have d0 : decide (s.sent < 0) = true := decide_eq_true n0
    clear h0 h1 n0 HBE HGV HDV HAG HAF
    go_enter Tryz.func24, Tryz.ntmps24
    obtain ⟨a0, a1, a2, a3, a4, a5, a6, a7, a8, a9, a10, a11⟩ := HH.out.1.cells
    go_wp2_with fail
    refine (HSO.out _ HH.out.2).mono ?_
    rintro e w1 ⟨rfl, hb1⟩
    have HH := LH (InBT.start (HH.out.next hb1) 75)
    clear hb1 a0 a1 a2 a3 a4 a5 a6 a7 a8 a9 a10 a11
    go_upto_region 2 with fail
    generalize w1.alloc (.cells #[.slice A2 s.pe.length c2, .slice A3 s.fl.length c3, .slice A4 s.ac.length c4] 75) = w2 at *
    generalize w1.heap.size = g at *
    obtain ⟨a0, a1, a2, a3, a4, a5, a6, a7, a8, a9, a10, a11⟩ := HH.out.1.1.cells
    obtain ⟨t0, t1, t2⟩ := HH.out.2.1
    go_wp2_with fail
    refine (HRN.out _ HH.out.1.2).mono ?_
    rintro e w1 ⟨rfl, hb1⟩
    have HH := LH (HH.out.next hb1)
    clear hb1 a0 a1 a2 a3 a4 a5 a6 a7 a8 a9 a10 a11 t0 t1 t2
    obtain ⟨a0, a1, a2, a3, a4, a5, a6, a7, a8, a9, a10, a11⟩ := HH.out.1.1.cells
    obtain ⟨t0, t1, t2⟩ := HH.out.2.1
    go_wp2_with fail
    refine (HBV.out _ HH.out.1.2).mono ?_
    rintro e w1 ⟨rfl, hb1⟩
    have HH := LH (HH.out.next hb1)
    clear hb1 a0 a1 a2 a3 a4 a5 a6 a7 a8 a9 a10 a11 t0 t1 t2
    obtain ⟨a0, a1, a2, a3, a4, a5, a6, a7, a8, a9, a10, a11⟩ := HH.out.1.1.cells
    obtain ⟨t0, t1, t2⟩ := HH.out.2.1
    go_wp2
    go_ret
    exact ⟨by rw [HV.out]; rfl, HH.out.1.2⟩
  have d0 : decide (s.sent < 0) = false := decide_eq_false n0
  by_cases n1 : s.rn.en < s.sent
  · have HV : Hid (decide (docSn s) = false) := LH (decide_eq_false (fun h => by have := h.1.2.2.2.2.1; omega))
    have d1 : decide (s.rn.en < s.sent) = true := decide_eq_true n1
    clear h0 h1 n0 n1 HBE HGV HDV HAG HAF
    go_enter Tryz.func24, Tryz.ntmps24
    obtain ⟨a0, a1, a2, a3, a4, a5, a6, a7, a8, a9, a10, a11⟩ := HH.out.1.cells
    go_wp2_with fail
    refine (HSO.out _ HH.out.2).mono ?_
    rintro e w1 ⟨rfl, hb1⟩
    have HH := LH (InBT.start (HH.out.next hb1) 75)
    clear hb1 a0 a1 a2 a3 a4 a5 a6 a7 a8 a9 a10 a11
    go_upto_region 2 with fail
    generalize w1.alloc (.cells #[.slice A2 s.pe.length c2, .slice A3 s.fl.length c3, .slice A4 s.ac.length c4] 75) = w2 at *
    generalize w1.heap.size = g at *
    obtain ⟨a0, a1, a2, a3, a4, a5, a6, a7, a8, a9, a10, a11⟩ := HH.out.1.1.cells
    obtain ⟨t0, t1, t2⟩ := HH.out.2.1
    go_wp2_with fail
    refine (HRN.out _ HH.out.1.2).mono ?_
    rintro e w1 ⟨rfl, hb1⟩
    have HH := LH (HH.out.next hb1)
    clear hb1 a0 a1 a2 a3 a4 a5 a6 a7 a8 a9 a10 a11 t0 t1 t2
    obtain ⟨a0, a1, a2, a3, a4, a5, a6, a7, a8, a9, a10, a11⟩ := HH.out.1.1.cells
    obtain ⟨t0, t1, t2⟩ := HH.out.2.1
    go_wp2_with fail
    refine (HBV.out _ HH.out.1.2).mono ?_
    rintro e w1 ⟨rfl, hb1⟩
    have HH := LH (HH.out.next hb1)
    clear hb1 a0 a1 a2 a3 a4 a5 a6 a7 a8 a9 a10 a11 t0 t1 t2
    obtain ⟨a0, a1, a2, a3, a4, a5, a6, a7, a8, a9, a10, a11⟩ := HH.out.1.1.cells
    obtain ⟨t0, t1, t2⟩ := HH.out.2.1
    go_wp2
    go_ret
    exact ⟨by rw [HV.out]; rfl, HH.out.1.2⟩
  have d1 : decide (s.rn.en < s.sent) = false := decide_eq_false n1
  by_cases n2 : s.code < 0
  · have HV : Hid (decide (docSn s) = false) := LH (decide_eq_false (fun h => by have := h.1.2.2.2.2.2.1; omega))
    have d2 : decide (s.code < 0) = true := decide_eq_true n2
    clear h0 h1 n0 n1 n2 HBE HGV HDV HAG HAF
    go_enter Tryz.func24, Tryz.ntmps24
    obtain ⟨a0, a1, a2, a3, a4, a5, a6, a7, a8, a9, a10, a11⟩ := HH.out.1.cells
    go_wp2_with fail
    refine (HSO.out _ HH.out.2).mono ?_
    rintro e w1 ⟨rfl, hb1⟩
    have HH := LH (InBT.start (HH.out.next hb1) 75)
    clear hb1 a0 a1 a2 a3 a4 a5 a6 a7 a8 a9 a10 a11
    go_upto_region 2 with fail
    generalize w1.alloc (.cells #[.slice A2 s.pe.length c2, .slice A3 s.fl.length c3, .slice A4 s.ac.length c4] 75) = w2 at *
    generalize w1.heap.size = g at *
    obtain ⟨a0, a1, a2, a3, a4, a5, a6, a7, a8, a9, a10, a11⟩ := HH.out.1.1.cells
    obtain ⟨t0, t1, t2⟩ := HH.out.2.1
    go_wp2_with fail
    refine (HRN.out _ HH.out.1.2).mono ?_
    rintro e w1 ⟨rfl, hb1⟩
    have HH := LH (HH.out.next hb1)
    clear hb1 a0 a1 a2 a3 a4 a5 a6 a7 a8 a9 a10 a11 t0 t1 t2
    obtain ⟨a0, a1, a2, a3, a4, a5, a6, a7, a8, a9, a10, a11⟩ := HH.out.1.1.cells
    obtain ⟨t0, t1, t2⟩ := HH.out.2.1
    go_wp2_with fail
    refine (HBV.out _ HH.out.1.2).mono ?_
    rintro e w1 ⟨rfl, hb1⟩
    have HH := LH (HH.out.next hb1)
    clear hb1 a0 a1 a2 a3 a4 a5 a6 a7 a8 a9 a10 a11 t0 t1 t2
    obtain ⟨a0, a1, a2, a3, a4, a5, a6, a7, a8, a9, a10, a11⟩ := HH.out.1.1.cells
    obtain ⟨t0, t1, t2⟩ := HH.out.2.1
    go_wp2
    go_ret
    exact ⟨by rw [HV.out]; rfl, HH.out.1.2⟩
  have d2 : decide (s.code < 0) = false := decide_eq_false n2
  by_cases n3 : 4611686018427387903 < s.code
  · have HV : Hid (decide (docSn s) = false) := LH (decide_eq_false (fun h => by have := h.1.2.2.2.2.2.1; omega))
    have d3 : decide (4611686018427387903 < s.code) = true := decide_eq_true n3
    clear h0 h1 n0 n1 n2 n3 HBE HGV HDV HAG HAF
    go_enter Tryz.func24, Tryz.ntmps24
    obtain ⟨a0, a1, a2, a3, a4, a5, a6, a7, a8, a9, a10, a11⟩ := HH.out.1.cells
    go_wp2_with fail
    refine (HSO.out _ HH.out.2).mono ?_
    rintro e w1 ⟨rfl, hb1⟩
    have HH := LH (InBT.start (HH.out.next hb1) 75)
    clear hb1 a0 a1 a2 a3 a4 a5 a6 a7 a8 a9 a10 a11
    go_upto_region 2 with fail
    generalize w1.alloc (.cells #[.slice A2 s.pe.length c2, .slice A3 s.fl.length c3, .slice A4 s.ac.length c4] 75) = w2 at *
    generalize w1.heap.size = g at *
    obtain ⟨a0, a1, a2, a3, a4, a5, a6, a7, a8, a9, a10, a11⟩ := HH.out.1.1.cells
    obtain ⟨t0, t1, t2⟩ := HH.out.2.1
    go_wp2_with fail
    refine (HRN.out _ HH.out.1.2).mono ?_
    rintro e w1 ⟨rfl, hb1⟩
    have HH := LH (HH.out.next hb1)
    clear hb1 a0 a1 a2 a3 a4 a5 a6 a7 a8 a9 a10 a11 t0 t1 t2
    obtain ⟨a0, a1, a2, a3, a4, a5, a6, a7, a8, a9, a10, a11⟩ := HH.out.1.1.cells
    obtain ⟨t0, t1, t2⟩ := HH.out.2.1
    go_wp2_with fail
    refine (HBV.out _ HH.out.1.2).mono ?_
    rintro e w1 ⟨rfl, hb1⟩
    have HH := LH (HH.out.next hb1)
    clear hb1 a0 a1 a2 a3 a4 a5 a6 a7 a8 a9 a10 a11 t0 t1 t2
    obtain ⟨a0, a1, a2, a3, a4, a5, a6, a7, a8, a9, a10, a11⟩ := HH.out.1.1.cells
    obtain ⟨t0, t1, t2⟩ := HH.out.2.1
    go_wp2
    go_ret
    exact ⟨by rw [HV.out]; rfl, HH.out.1.2⟩
  have d3 : decide (4611686018427387903 < s.code) = false := decide_eq_false n3
  by_cases n4 : s.fi < 0
  · have HV : Hid (decide (docSn s) = false) := LH (decide_eq_false (fun h => by have := h.1.2.2.2.2.2.2; omega))
    have d4 : decide (s.fi < 0) = true := decide_eq_true n4
    clear h0 h1 n0 n1 n2 n3 n4 HBE HGV HDV HAG HAF
    go_enter Tryz.func24, Tryz.ntmps24
    obtain ⟨a0, a1, a2, a3, a4, a5, a6, a7, a8, a9, a10, a11⟩ := HH.out.1.cells
    go_wp2_with fail
    refine (HSO.out _ HH.out.2).mono ?_
    rintro e w1 ⟨rfl, hb1⟩
    have HH := LH (InBT.start (HH.out.next hb1) 75)
    clear hb1 a0 a1 a2 a3 a4 a5 a6 a7 a8 a9 a10 a11
    go_upto_region 2 with fail
    generalize w1.alloc (.cells #[.slice A2 s.pe.length c2, .slice A3 s.fl.length c3, .slice A4 s.ac.length c4] 75) = w2 at *
    generalize w1.heap.size = g at *
    obtain ⟨a0, a1, a2, a3, a4, a5, a6, a7, a8, a9, a10, a11⟩ := HH.out.1.1.cells
    obtain ⟨t0, t1, t2⟩ := HH.out.2.1
    go_wp2_with fail
    refine (HRN.out _ HH.out.1.2).mono ?_
    rintro e w1 ⟨rfl, hb1⟩
    have HH := LH (HH.out.next hb1)
    clear hb1 a0 a1 a2 a3 a4 a5 a6 a7 a8 a9 a10 a11 t0 t1 t2
    obtain ⟨a0, a1, a2, a3, a4, a5, a6, a7, a8, a9, a10, a11⟩ := HH.out.1.1.cells
    obtain ⟨t0, t1, t2⟩ := HH.out.2.1
    go_wp2_with fail
    refine (HBV.out _ HH.out.1.2).mono ?_
    rintro e w1 ⟨rfl, hb1⟩
    have HH := LH (HH.out.next hb1)
    clear hb1 a0 a1 a2 a3 a4 a5 a6 a7 a8 a9 a10 a11 t0 t1 t2
    obtain ⟨a0, a1, a2, a3, a4, a5, a6, a7, a8, a9, a10, a11⟩ := HH.out.1.1.cells
    obtain ⟨t0, t1, t2⟩ := HH.out.2.1
    go_wp2
    go_ret
    exact ⟨by rw [HV.out]; rfl, HH.out.1.2⟩
  have d4 : decide (s.fi < 0) = false := decide_eq_false n4
  by_cases n5 : 3 < s.fi
  · have HV : Hid (decide (docSn s) = false) := LH (decide_eq_false (fun h => by have := h.1.2.2.2.2.2.2; omega))
    have d5 : decide (3 < s.fi) = true := decide_eq_true n5
    clear h0 h1 n0 n1 n2 n3 n4 n5 HBE HGV HDV HAG HAF
    go_enter Tryz.func24, Tryz.ntmps24
    obtain ⟨a0, a1, a2, a3, a4, a5, a6, a7, a8, a9, a10, a11⟩ := HH.out.1.cells
    go_wp2_with fail
    refine (HSO.out _ HH.out.2).mono ?_
    rintro e w1 ⟨rfl, hb1⟩
    have HH := LH (InBT.start (HH.out.next hb1) 75)
    clear hb1 a0 a1 a2 a3 a4 a5 a6 a7 a8 a9 a10 a11
    go_upto_region 2 with fail
    generalize w1.alloc (.cells #[.slice A2 s.pe.length c2, .slice A3 s.fl.length c3, .slice A4 s.ac.length c4] 75) = w2 at *
    generalize w1.heap.size = g at *
    obtain ⟨a0, a1, a2, a3, a4, a5, a6, a7, a8, a9, a10, a11⟩ := HH.out.1.1.cells
    obtain ⟨t0, t1, t2⟩ := HH.out.2.1
    go_wp2_with fail
    refine (HRN.out _ HH.out.1.2).mono ?_
    rintro e w1 ⟨rfl, hb1⟩
    have HH := LH (HH.out.next hb1)
    clear hb1 a0 a1 a2 a3 a4 a5 a6 a7 a8 a9 a10 a11 t0 t1 t2
    obtain ⟨a0, a1, a2, a3, a4, a5, a6, a7, a8, a9, a10, a11⟩ := HH.out.1.1.cells
    obtain ⟨t0, t1, t2⟩ := HH.out.2.1
    go_wp2_with fail
    refine (HBV.out _ HH.out.1.2).mono ?_
    rintro e w1 ⟨rfl, hb1⟩
    have HH := LH (HH.out.next hb1)
    clear hb1 a0 a1 a2 a3 a4 a5 a6 a7 a8 a9 a10 a11 t0 t1 t2
    obtain ⟨a0, a1, a2, a3, a4, a5, a6, a7, a8, a9, a10, a11⟩ := HH.out.1.1.cells
    obtain ⟨t0, t1, t2⟩ := HH.out.2.1
    go_wp2
    go_ret
    exact ⟨by rw [HV.out]; rfl, HH.out.1.2⟩
  have d5 : decide (3 < s.fi) = false := decide_eq_false n5
  have HF : Hid (fitS s) := LH ⟨h0, h1.1, h1.2.1, h1.2.2, ⟨Int.not_lt.1 n0, Int.not_lt.1 n1⟩, ⟨Int.not_lt.1 n2, Int.not_lt.1 n3⟩, Int.not_lt.1 n4, Int.not_lt.1 n5⟩
  have HDV := LH (HDV.out h1)
  have HAG := LH (HAG.out h1.2.2)
  have HAF := LH (HAF.out ⟨Int.not_lt.1 n4, Int.not_lt.1 n5⟩)
  clear h0 h1 n0 n1 n2 n3 n4 n5
  by_cases hst : s.st = 4 ∨ s.st = 5
  · have HD : Hid (docSn s ↔ rstS s) := LH ⟨fun k => by have h9 := k.2; rwa [if_pos hst] at h9, fun k => ⟨HF.out, by rw [if_pos hst]; exact k⟩⟩
    have HRS : Hid (rstS s ↔ (s.pe = [] ∧ s.fl = [] ∧ s.ac = []) ∧ s.rn.base = s.rn.en ∧ s.sent = s.rn.en ∧ s.fin = s.rn.en ∧ s.fi = 0) := LH ⟨fun ⟨k1, k2, k3, k4, k5, k6, k7⟩ => ⟨⟨k2, k3, k4⟩, k1, k7, k5.trans k7, k6⟩, fun ⟨⟨k2, k3, k4⟩, k1, k7, k5, k6⟩ => ⟨k1, k2, k3, k4, k5.trans k7.symm, k6, k7⟩⟩
    clear HDV HAG HAF HF
    by_cases h2 : s.pe = [] ∧ s.fl = [] ∧ s.ac = []
    · have HV : Hid (decide (docSn s) = decide (s.rn.base = s.rn.en ∧ s.sent = s.rn.en ∧ s.fin = s.rn.en ∧ s.fi = 0)) := LH (decide_eq_decide.2 (HD.out.trans (HRS.out.trans ⟨fun k => k.2, fun k => ⟨h2, k⟩⟩)))
      rw [decide_eq_true h2] at HBE
      clear h2 HD HRS
      have e4 : s.st = 4 ∨ s.st = 5 := hst
      clear hst
      by_cases h4 : s.st = 4
      all_goals rw [HV.out]
      all_goals clear HV
      all_goals generalize decide (s.rn.base = s.rn.en ∧ s.sent = s.rn.en ∧ s.fin = s.rn.en ∧ s.fi = 0) = bg at *
      · have s4 : (s.st == 4) = true := by simpa using h4
        clear e4 h4
        go_enter Tryz.func24, Tryz.ntmps24
        obtain ⟨a0, a1, a2, a3, a4, a5, a6, a7, a8, a9, a10, a11⟩ := HH.out.1.cells
        go_wp2_with fail
        refine (HSO.out _ HH.out.2).mono ?_
        rintro e w1 ⟨rfl, hb1⟩
        have HH := LH (InBT.start (HH.out.next hb1) 75)
        clear hb1 a0 a1 a2 a3 a4 a5 a6 a7 a8 a9 a10 a11
        go_upto_region 2 with fail
        generalize w1.alloc (.cells #[.slice A2 s.pe.length c2, .slice A3 s.fl.length c3, .slice A4 s.ac.length c4] 75) = w2 at *
        generalize w1.heap.size = g at *
        obtain ⟨a0, a1, a2, a3, a4, a5, a6, a7, a8, a9, a10, a11⟩ := HH.out.1.1.cells
        obtain ⟨t0, t1, t2⟩ := HH.out.2.1
        go_wp2_with fail
        refine (HRN.out _ HH.out.1.2).mono ?_
        rintro e w1 ⟨rfl, hb1⟩
        have HH := LH (HH.out.next hb1)
        clear hb1 a0 a1 a2 a3 a4 a5 a6 a7 a8 a9 a10 a11 t0 t1 t2
        obtain ⟨a0, a1, a2, a3, a4, a5, a6, a7, a8, a9, a10, a11⟩ := HH.out.1.1.cells
        obtain ⟨t0, t1, t2⟩ := HH.out.2.1
        go_wp2_with fail
        refine (HBV.out _ HH.out.1.2).mono ?_
        rintro e w1 ⟨rfl, hb1⟩
        have HH := LH (HH.out.next hb1)
        clear hb1 a0 a1 a2 a3 a4 a5 a6 a7 a8 a9 a10 a11 t0 t1 t2
        obtain ⟨a0, a1, a2, a3, a4, a5, a6, a7, a8, a9, a10, a11⟩ := HH.out.1.1.cells
        obtain ⟨t0, t1, t2⟩ := HH.out.2.1
        go_wp2_with fail
        refine (HBE.out _ HH.out.1.2).mono ?_
        rintro e w1 ⟨rfl, hb1⟩
        have HH := LH (HH.out.next hb1)
        clear hb1 a0 a1 a2 a3 a4 a5 a6 a7 a8 a9 a10 a11 t0 t1 t2
        obtain ⟨a0, a1, a2, a3, a4, a5, a6, a7, a8, a9, a10, a11⟩ := HH.out.1.1.cells
        obtain ⟨t0, t1, t2⟩ := HH.out.2.1
        go_wp2_with fail
        refine (HGV.out _ HH.out.1.2).mono ?_
        rintro e w1 ⟨rfl, hb1⟩
        have HH := LH (HH.out.next hb1)
        clear hb1 a0 a1 a2 a3 a4 a5 a6 a7 a8 a9 a10 a11 t0 t1 t2
        obtain ⟨a0, a1, a2, a3, a4, a5, a6, a7, a8, a9, a10, a11⟩ := HH.out.1.1.cells
        obtain ⟨t0, t1, t2⟩ := HH.out.2.1
        go_wp2
        go_ret
        exact ⟨rfl, HH.out.1.2⟩
      · have s4 : (s.st == 4) = false := by simpa using h4
        have s5 : (s.st == 5) = true := by simpa using e4.resolve_left h4
        clear e4 h4
        go_enter Tryz.func24, Tryz.ntmps24
        obtain ⟨a0, a1, a2, a3, a4, a5, a6, a7, a8, a9, a10, a11⟩ := HH.out.1.cells
        go_wp2_with fail
        refine (HSO.out _ HH.out.2).mono ?_
        rintro e w1 ⟨rfl, hb1⟩
        have HH := LH (InBT.start (HH.out.next hb1) 75)
        clear hb1 a0 a1 a2 a3 a4 a5 a6 a7 a8 a9 a10 a11
        go_upto_region 2 with fail
        generalize w1.alloc (.cells #[.slice A2 s.pe.length c2, .slice A3 s.fl.length c3, .slice A4 s.ac.length c4] 75) = w2 at *
        generalize w1.heap.size = g at *
        obtain ⟨a0, a1, a2, a3, a4, a5, a6, a7, a8, a9, a10, a11⟩ := HH.out.1.1.cells
        obtain ⟨t0, t1, t2⟩ := HH.out.2.1
        go_wp2_with fail
        refine (HRN.out _ HH.out.1.2).mono ?_
        rintro e w1 ⟨rfl, hb1⟩
        have HH := LH (HH.out.next hb1)
        clear hb1 a0 a1 a2 a3 a4 a5 a6 a7 a8 a9 a10 a11 t0 t1 t2
        obtain ⟨a0, a1, a2, a3, a4, a5, a6, a7, a8, a9, a10, a11⟩ := HH.out.1.1.cells
        obtain ⟨t0, t1, t2⟩ := HH.out.2.1
        go_wp2_with fail
        refine (HBV.out _ HH.out.1.2).mono ?_
        rintro e w1 ⟨rfl, hb1⟩
        have HH := LH (HH.out.next hb1)
        clear hb1 a0 a1 a2 a3 a4 a5 a6 a7 a8 a9 a10 a11 t0 t1 t2
        obtain ⟨a0, a1, a2, a3, a4, a5, a6, a7, a8, a9, a10, a11⟩ := HH.out.1.1.cells
        obtain ⟨t0, t1, t2⟩ := HH.out.2.1
        go_wp2_with fail
        refine (HBE.out _ HH.out.1.2).mono ?_
        rintro e w1 ⟨rfl, hb1⟩
        have HH := LH (HH.out.next hb1)
        clear hb1 a0 a1 a2 a3 a4 a5 a6 a7 a8 a9 a10 a11 t0 t1 t2
        obtain ⟨a0, a1, a2, a3, a4, a5, a6, a7, a8, a9, a10, a11⟩ := HH.out.1.1.cells
        obtain ⟨t0, t1, t2⟩ := HH.out.2.1
        go_wp2_with fail
        refine (HGV.out _ HH.out.1.2).mono ?_
        rintro e w1 ⟨rfl, hb1⟩
        have HH := LH (HH.out.next hb1)
        clear hb1 a0 a1 a2 a3 a4 a5 a6 a7 a8 a9 a10 a11 t0 t1 t2
        obtain ⟨a0, a1, a2, a3, a4, a5, a6, a7, a8, a9, a10, a11⟩ := HH.out.1.1.cells
        obtain ⟨t0, t1, t2⟩ := HH.out.2.1
        go_wp2
        go_ret
        exact ⟨rfl, HH.out.1.2⟩
    · have HV : Hid (decide (docSn s) = false) := LH (decide_eq_false fun k => h2 (HRS.out.1 (HD.out.1 k)).1)
      rw [decide_eq_false h2] at HBE
      clear h2 HD HRS HGV
      have e4 : s.st = 4 ∨ s.st = 5 := hst
      clear hst
      by_cases h4 : s.st = 4
      · have s4 : (s.st == 4) = true := by simpa using h4
        clear e4 h4
        go_enter Tryz.func24, Tryz.ntmps24
        obtain ⟨a0, a1, a2, a3, a4, a5, a6, a7, a8, a9, a10, a11⟩ := HH.out.1.cells
        go_wp2_with fail
        refine (HSO.out _ HH.out.2).mono ?_
        rintro e w1 ⟨rfl, hb1⟩
        have HH := LH (InBT.start (HH.out.next hb1) 75)
        clear hb1 a0 a1 a2 a3 a4 a5 a6 a7 a8 a9 a10 a11
        go_upto_region 2 with fail
        generalize w1.alloc (.cells #[.slice A2 s.pe.length c2, .slice A3 s.fl.length c3, .slice A4 s.ac.length c4] 75) = w2 at *
        generalize w1.heap.size = g at *
        obtain ⟨a0, a1, a2, a3, a4, a5, a6, a7, a8, a9, a10, a11⟩ := HH.out.1.1.cells
        obtain ⟨t0, t1, t2⟩ := HH.out.2.1
        go_wp2_with fail
        refine (HRN.out _ HH.out.1.2).mono ?_
        rintro e w1 ⟨rfl, hb1⟩
        have HH := LH (HH.out.next hb1)
        clear hb1 a0 a1 a2 a3 a4 a5 a6 a7 a8 a9 a10 a11 t0 t1 t2
        obtain ⟨a0, a1, a2, a3, a4, a5, a6, a7, a8, a9, a10, a11⟩ := HH.out.1.1.cells
        obtain ⟨t0, t1, t2⟩ := HH.out.2.1
        go_wp2_with fail
        refine (HBV.out _ HH.out.1.2).mono ?_
        rintro e w1 ⟨rfl, hb1⟩
        have HH := LH (HH.out.next hb1)
        clear hb1 a0 a1 a2 a3 a4 a5 a6 a7 a8 a9 a10 a11 t0 t1 t2
        obtain ⟨a0, a1, a2, a3, a4, a5, a6, a7, a8, a9, a10, a11⟩ := HH.out.1.1.cells
        obtain ⟨t0, t1, t2⟩ := HH.out.2.1
        go_wp2_with fail
        refine (HBE.out _ HH.out.1.2).mono ?_
        rintro e w1 ⟨rfl, hb1⟩
        have HH := LH (HH.out.next hb1)
        clear hb1 a0 a1 a2 a3 a4 a5 a6 a7 a8 a9 a10 a11 t0 t1 t2
        obtain ⟨a0, a1, a2, a3, a4, a5, a6, a7, a8, a9, a10, a11⟩ := HH.out.1.1.cells
        obtain ⟨t0, t1, t2⟩ := HH.out.2.1
        go_wp2
        go_ret
        exact ⟨by rw [HV.out]; rfl, HH.out.1.2⟩
      · have s4 : (s.st == 4) = false := by simpa using h4
        have s5 : (s.st == 5) = true := by simpa using e4.resolve_left h4
        clear e4 h4
        go_enter Tryz.func24, Tryz.ntmps24
        obtain ⟨a0, a1, a2, a3, a4, a5, a6, a7, a8, a9, a10, a11⟩ := HH.out.1.cells
        go_wp2_with fail
        refine (HSO.out _ HH.out.2).mono ?_
        rintro e w1 ⟨rfl, hb1⟩
        have HH := LH (InBT.start (HH.out.next hb1) 75)
        clear hb1 a0 a1 a2 a3 a4 a5 a6 a7 a8 a9 a10 a11
        go_upto_region 2 with fail
        generalize w1.alloc (.cells #[.slice A2 s.pe.length c2, .slice A3 s.fl.length c3, .slice A4 s.ac.length c4] 75) = w2 at *
        generalize w1.heap.size = g at *
        obtain ⟨a0, a1, a2, a3, a4, a5, a6, a7, a8, a9, a10, a11⟩ := HH.out.1.1.cells
        obtain ⟨t0, t1, t2⟩ := HH.out.2.1
        go_wp2_with fail
        refine (HRN.out _ HH.out.1.2).mono ?_
        rintro e w1 ⟨rfl, hb1⟩
        have HH := LH (HH.out.next hb1)
        clear hb1 a0 a1 a2 a3 a4 a5 a6 a7 a8 a9 a10 a11 t0 t1 t2
        obtain ⟨a0, a1, a2, a3, a4, a5, a6, a7, a8, a9, a10, a11⟩ := HH.out.1.1.cells
        obtain ⟨t0, t1, t2⟩ := HH.out.2.1
        go_wp2_with fail
        refine (HBV.out _ HH.out.1.2).mono ?_
        rintro e w1 ⟨rfl, hb1⟩
        have HH := LH (HH.out.next hb1)
        clear hb1 a0 a1 a2 a3 a4 a5 a6 a7 a8 a9 a10 a11 t0 t1 t2
        obtain ⟨a0, a1, a2, a3, a4, a5, a6, a7, a8, a9, a10, a11⟩ := HH.out.1.1.cells
        obtain ⟨t0, t1, t2⟩ := HH.out.2.1
        go_wp2_with fail
        refine (HBE.out _ HH.out.1.2).mono ?_
        rintro e w1 ⟨rfl, hb1⟩
        have HH := LH (HH.out.next hb1)
        clear hb1 a0 a1 a2 a3 a4 a5 a6 a7 a8 a9 a10 a11 t0 t1 t2
        obtain ⟨a0, a1, a2, a3, a4, a5, a6, a7, a8, a9, a10, a11⟩ := HH.out.1.1.cells
        obtain ⟨t0, t1, t2⟩ := HH.out.2.1
        go_wp2
        go_ret
        exact ⟨by rw [HV.out]; rfl, HH.out.1.2⟩
  have s4 : (s.st == 4) = false := by simpa using fun h => hst (.inl h)
  have s5 : (s.st == 5) = false := by simpa using fun h => hst (.inr h)
  have HD : Hid (docSn s ↔ divS s ∧ s.code = 0 ∧ agrS s ∧ afnS s) := LH (by
    have h9 : docSn s ↔ listS s ∧ endS s := ⟨fun k => by have h9 := k.2; rwa [if_neg hst] at h9, fun k => ⟨HF.out, by rw [if_neg hst]; exact k⟩⟩
    rw [h9, ← divS_list HF.out, ← agr_end HF.out])
  clear hst HF HBE HGV
  by_cases h2 : s.code = 0
  rotate_left
  · have HV : Hid (decide (docSn s) = false) := LH (decide_eq_false fun k => h2 (HD.out.1 k).2.1)
    have s6 : (s.code == 0) = false := by simpa using h2
    clear h2 HD HDV HAG HAF
    go_enter Tryz.func24, Tryz.ntmps24
    obtain ⟨a0, a1, a2, a3, a4, a5, a6, a7, a8, a9, a10, a11⟩ := HH.out.1.cells
    go_wp2_with fail
    refine (HSO.out _ HH.out.2).mono ?_
    rintro e w1 ⟨rfl, hb1⟩
    have HH := LH (InBT.start (HH.out.next hb1) 75)
    clear hb1 a0 a1 a2 a3 a4 a5 a6 a7 a8 a9 a10 a11
    go_upto_region 2 with fail
    generalize w1.alloc (.cells #[.slice A2 s.pe.length c2, .slice A3 s.fl.length c3, .slice A4 s.ac.length c4] 75) = w2 at *
    generalize w1.heap.size = g at *
    obtain ⟨a0, a1, a2, a3, a4, a5, a6, a7, a8, a9, a10, a11⟩ := HH.out.1.1.cells
    obtain ⟨t0, t1, t2⟩ := HH.out.2.1
    go_wp2_with fail
    refine (HRN.out _ HH.out.1.2).mono ?_
    rintro e w1 ⟨rfl, hb1⟩
    have HH := LH (HH.out.next hb1)
    clear hb1 a0 a1 a2 a3 a4 a5 a6 a7 a8 a9 a10 a11 t0 t1 t2
    obtain ⟨a0, a1, a2, a3, a4, a5, a6, a7, a8, a9, a10, a11⟩ := HH.out.1.1.cells
    obtain ⟨t0, t1, t2⟩ := HH.out.2.1
    go_wp2_with fail
    refine (HBV.out _ HH.out.1.2).mono ?_
    rintro e w1 ⟨rfl, hb1⟩
    have HH := LH (HH.out.next hb1)
    clear hb1 a0 a1 a2 a3 a4 a5 a6 a7 a8 a9 a10 a11 t0 t1 t2
    obtain ⟨a0, a1, a2, a3, a4, a5, a6, a7, a8, a9, a10, a11⟩ := HH.out.1.1.cells
    obtain ⟨t0, t1, t2⟩ := HH.out.2.1
    go_wp2
    go_ret
    exact ⟨by rw [HV.out]; rfl, HH.out.1.2⟩
  have s6 : (s.code == 0) = true := by simpa using h2
  by_cases h3 : divS s
  rotate_left
  · have HV : Hid (decide (docSn s) = false) := LH (decide_eq_false fun k => h3 (HD.out.1 k).1)
    rw [decide_eq_false h3] at HDV
    clear h2 h3 HD HAG HAF
    go_enter Tryz.func24, Tryz.ntmps24
    obtain ⟨a0, a1, a2, a3, a4, a5, a6, a7, a8, a9, a10, a11⟩ := HH.out.1.cells
    go_wp2_with fail
    refine (HSO.out _ HH.out.2).mono ?_
    rintro e w1 ⟨rfl, hb1⟩
    have HH := LH (InBT.start (HH.out.next hb1) 75)
    clear hb1 a0 a1 a2 a3 a4 a5 a6 a7 a8 a9 a10 a11
    go_upto_region 2 with fail
    generalize w1.alloc (.cells #[.slice A2 s.pe.length c2, .slice A3 s.fl.length c3, .slice A4 s.ac.length c4] 75) = w2 at *
    generalize w1.heap.size = g at *
    obtain ⟨a0, a1, a2, a3, a4, a5, a6, a7, a8, a9, a10, a11⟩ := HH.out.1.1.cells
    obtain ⟨t0, t1, t2⟩ := HH.out.2.1
    go_wp2_with fail
    refine (HRN.out _ HH.out.1.2).mono ?_
    rintro e w1 ⟨rfl, hb1⟩
    have HH := LH (HH.out.next hb1)
    clear hb1 a0 a1 a2 a3 a4 a5 a6 a7 a8 a9 a10 a11 t0 t1 t2
    obtain ⟨a0, a1, a2, a3, a4, a5, a6, a7, a8, a9, a10, a11⟩ := HH.out.1.1.cells
    obtain ⟨t0, t1, t2⟩ := HH.out.2.1
    go_wp2_with fail
    refine (HBV.out _ HH.out.1.2).mono ?_
    rintro e w1 ⟨rfl, hb1⟩
    have HH := LH (HH.out.next hb1)
    clear hb1 a0 a1 a2 a3 a4 a5 a6 a7 a8 a9 a10 a11 t0 t1 t2
    obtain ⟨a0, a1, a2, a3, a4, a5, a6, a7, a8, a9, a10, a11⟩ := HH.out.1.1.cells
    obtain ⟨t0, t1, t2⟩ := HH.out.2.1
    go_wp2_with fail
    refine (HDV.out _ HH.out.1.2).mono ?_
    rintro e w1 ⟨rfl, hb1⟩
    have HH := LH (HH.out.next hb1)
    clear hb1 a0 a1 a2 a3 a4 a5 a6 a7 a8 a9 a10 a11 t0 t1 t2
    obtain ⟨a0, a1, a2, a3, a4, a5, a6, a7, a8, a9, a10, a11⟩ := HH.out.1.1.cells
    obtain ⟨t0, t1, t2⟩ := HH.out.2.1
    go_wp2
    go_ret
    exact ⟨by rw [HV.out]; rfl, HH.out.1.2⟩
  rw [decide_eq_true h3] at HDV
  by_cases h4 : agrS s
  rotate_left
  · have HV : Hid (decide (docSn s) = false) := LH (decide_eq_false fun k => h4 (HD.out.1 k).2.2.1)
    rw [decide_eq_false h4] at HAG
    clear h2 h3 h4 HD HAF
    go_enter Tryz.func24, Tryz.ntmps24
    obtain ⟨a0, a1, a2, a3, a4, a5, a6, a7, a8, a9, a10, a11⟩ := HH.out.1.cells
    go_wp2_with fail
    refine (HSO.out _ HH.out.2).mono ?_
    rintro e w1 ⟨rfl, hb1⟩
    have HH := LH (InBT.start (HH.out.next hb1) 75)
    clear hb1 a0 a1 a2 a3 a4 a5 a6 a7 a8 a9 a10 a11
    go_upto_region 2 with fail
    generalize w1.alloc (.cells #[.slice A2 s.pe.length c2, .slice A3 s.fl.length c3, .slice A4 s.ac.length c4] 75) = w2 at *
    generalize w1.heap.size = g at *
    obtain ⟨a0, a1, a2, a3, a4, a5, a6, a7, a8, a9, a10, a11⟩ := HH.out.1.1.cells
    obtain ⟨t0, t1, t2⟩ := HH.out.2.1
    go_wp2_with fail
    refine (HRN.out _ HH.out.1.2).mono ?_
    rintro e w1 ⟨rfl, hb1⟩
    have HH := LH (HH.out.next hb1)
    clear hb1 a0 a1 a2 a3 a4 a5 a6 a7 a8 a9 a10 a11 t0 t1 t2
    obtain ⟨a0, a1, a2, a3, a4, a5, a6, a7, a8, a9, a10, a11⟩ := HH.out.1.1.cells
    obtain ⟨t0, t1, t2⟩ := HH.out.2.1
    go_wp2_with fail
    refine (HBV.out _ HH.out.1.2).mono ?_
    rintro e w1 ⟨rfl, hb1⟩
    have HH := LH (HH.out.next hb1)
    clear hb1 a0 a1 a2 a3 a4 a5 a6 a7 a8 a9 a10 a11 t0 t1 t2
    obtain ⟨a0, a1, a2, a3, a4, a5, a6, a7, a8, a9, a10, a11⟩ := HH.out.1.1.cells
    obtain ⟨t0, t1, t2⟩ := HH.out.2.1
    go_wp2_with fail
    refine (HDV.out _ HH.out.1.2).mono ?_
    rintro e w1 ⟨rfl, hb1⟩
    have HH := LH (HH.out.next hb1)
    clear hb1 a0 a1 a2 a3 a4 a5 a6 a7 a8 a9 a10 a11 t0 t1 t2
    obtain ⟨a0, a1, a2, a3, a4, a5, a6, a7, a8, a9, a10, a11⟩ := HH.out.1.1.cells
    obtain ⟨t0, t1, t2⟩ := HH.out.2.1
    go_wp2_with fail
    refine (HAG.out _ HH.out.1.2).mono ?_
    rintro e w1 ⟨rfl, hb1⟩
    have HH := LH (HH.out.next hb1)
    clear hb1 a0 a1 a2 a3 a4 a5 a6 a7 a8 a9 a10 a11 t0 t1 t2
    obtain ⟨a0, a1, a2, a3, a4, a5, a6, a7, a8, a9, a10, a11⟩ := HH.out.1.1.cells
    obtain ⟨t0, t1, t2⟩ := HH.out.2.1
    go_wp2
    go_ret
    exact ⟨by rw [HV.out]; rfl, HH.out.1.2⟩
  rw [decide_eq_true h4] at HAG
  have HV : Hid (decide (docSn s) = decide (afnS s)) := LH (decide_eq_decide.2 (HD.out.trans ⟨fun k => k.2.2.2, fun k => ⟨h3, h2, h4, k⟩⟩))
  rw [HV.out]
  clear HV h2 h3 h4 HD
  generalize decide (afnS s) = bg at *
  go_enter Tryz.func24, Tryz.ntmps24
  obtain ⟨a0, a1, a2, a3, a4, a5, a6, a7, a8, a9, a10, a11⟩ := HH.out.1.cells
  go_wp2_with fail
  refine (HSO.out _ HH.out.2).mono ?_
  rintro e w1 ⟨rfl, hb1⟩
  have HH := LH (InBT.start (HH.out.next hb1) 75)
  clear hb1 a0 a1 a2 a3 a4 a5 a6 a7 a8 a9 a10 a11
  go_upto_region 2 with fail
  generalize w1.alloc (.cells #[.slice A2 s.pe.length c2, .slice A3 s.fl.length c3, .slice A4 s.ac.length c4] 75) = w2 at *
  generalize w1.heap.size = g at *
  obtain ⟨a0, a1, a2, a3, a4, a5, a6, a7, a8, a9, a10, a11⟩ := HH.out.1.1.cells
  obtain ⟨t0, t1, t2⟩ := HH.out.2.1
  go_wp2_with fail
  refine (HRN.out _ HH.out.1.2).mono ?_
  rintro e w1 ⟨rfl, hb1⟩
  have HH := LH (HH.out.next hb1)
  clear hb1 a0 a1 a2 a3 a4 a5 a6 a7 a8 a9 a10 a11 t0 t1 t2
  obtain ⟨a0, a1, a2, a3, a4, a5, a6, a7, a8, a9, a10, a11⟩ := HH.out.1.1.cells
  obtain ⟨t0, t1, t2⟩ := HH.out.2.1
  go_wp2_with fail
  refine (HBV.out _ HH.out.1.2).mono ?_
  rintro e w1 ⟨rfl, hb1⟩
  have HH := LH (HH.out.next hb1)
  clear hb1 a0 a1 a2 a3 a4 a5 a6 a7 a8 a9 a10 a11 t0 t1 t2
  obtain ⟨a0, a1, a2, a3, a4, a5, a6, a7, a8, a9, a10, a11⟩ := HH.out.1.1.cells
  obtain ⟨t0, t1, t2⟩ := HH.out.2.1
  go_wp2_with fail
  refine (HDV.out _ HH.out.1.2).mono ?_
  rintro e w1 ⟨rfl, hb1⟩
  have HH := LH (HH.out.next hb1)
  clear hb1 a0 a1 a2 a3 a4 a5 a6 a7 a8 a9 a10 a11 t0 t1 t2
  obtain ⟨a0, a1, a2, a3, a4, a5, a6, a7, a8, a9, a10, a11⟩ := HH.out.1.1.cells
  obtain ⟨t0, t1, t2⟩ := HH.out.2.1
  go_wp2_with fail
  refine (HAG.out _ HH.out.1.2).mono ?_
  rintro e w1 ⟨rfl, hb1⟩
  have HH := LH (HH.out.next hb1)
  clear hb1 a0 a1 a2 a3 a4 a5 a6 a7 a8 a9 a10 a11 t0 t1 t2
  obtain ⟨a0, a1, a2, a3, a4, a5, a6, a7, a8, a9, a10, a11⟩ := HH.out.1.1.cells
  obtain ⟨t0, t1, t2⟩ := HH.out.2.1
  go_wp2_with fail
  refine (HAF.out _ HH.out.1.2).mono ?_
  rintro e w1 ⟨rfl, hb1⟩
  have HH := LH (HH.out.next hb1)
  clear hb1 a0 a1 a2 a3 a4 a5 a6 a7 a8 a9 a10 a11 t0 t1 t2
  obtain ⟨a0, a1, a2, a3, a4, a5, a6, a7, a8, a9, a10, a11⟩ := HH.out.1.1.cells
  obtain ⟨t0, t1, t2⟩ := HH.out.2.1
  go_wp2
  go_ret
  exact ⟨rfl, HH.out.1.2⟩
end Go.Proofs.YtdaoaedkjoknmaaGreat
