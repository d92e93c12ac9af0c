/-
  Contracts and lemmas for the law on draining.
-/
import Derived.Test.YtdaoaedkjoknmaaGreatDrZ0
import Derived.Test.YtdaoaedkjoknmaaGreatDrZ37
set_option maxRecDepth 1000000
set_option maxHeartbeats 8000000
namespace Go.Proofs.YtdaoaedkjoknmaaGreat
open Go.RowKit Go.Deep Go.Proofs.YtdaoaedkjoknmaaGreat.Num

def InSR (w : World) (s : Sn) (v1 v2 v3 v4 : Value) (p : Pc) (W : World) : Prop := InSP w s v1 v2 v3 v4 p W ∧ Box W (w.heap.size + 2) (0, 0)
theorem InSR.start (w : World) (s : Sn) (v1 v2 v3 v4 : Value) (p : Pc) : InSR w s v1 v2 v3 v4 p (((w.alloc (.cells (snB s v1 v2 v3 v4) 29)).alloc (.cells #[.int .i64 p.off, .string p.data, .bool p.fin] 44)).alloc (.cells #[.int .i64 0, .int .i64 0] 59)) := by
  have hz : ((w.alloc (.cells (snB s v1 v2 v3 v4) 29)).alloc (.cells #[.int .i64 p.off, .string p.data, .bool p.fin] 44)).heap.size = w.heap.size + 2 := by simp
  have h := InSP.start w s v1 v2 v3 v4 p
  have hb := Box.new ((w.alloc (.cells (snB s v1 v2 v3 v4) 29)).alloc (.cells #[.int .i64 p.off, .string p.data, .bool p.fin] 44)) (0, 0)
  rw [hz] at hb
  have hb3 : Below (w.heap.size + 2) _ _ := (Below.refl (w.heap.size + 2) ((w.alloc (.cells (snB s v1 v2 v3 v4) 29)).alloc (.cells #[.int .i64 p.off, .string p.data, .bool p.fin] 44))).alloc (Nat.le_of_eq hz.symm) (.cells #[.int .i64 0, .int .i64 0] 59)
  refine ⟨⟨h.1.below hb3 (by omega), ?_, h.2.2.trans (hb3.mono (by omega))⟩, hb⟩
  exact ⟨(hb3.cell (p := ⟨w.heap.size + 1, 0, none⟩) (Nat.lt_succ_self _)).trans h.2.1.1, (hb3.cell (p := ⟨w.heap.size + 1, 1, none⟩) (Nat.lt_succ_self _)).trans h.2.1.2.1, (hb3.cell (p := ⟨w.heap.size + 1, 2, none⟩) (Nat.lt_succ_self _)).trans h.2.1.2.2⟩
theorem InSR.next {w : World} {s : Sn} {v1 v2 v3 v4 : Value} {p : Pc} {W W' : World} (h : InSR w s v1 v2 v3 v4 p W) (hb : Below W.heap.size W W') : InSR w s v1 v2 v3 v4 p W' := by
  have hl : w.heap.size + 2 < W.heap.size := (Array.getElem?_eq_some_iff.1 h.2).1
  refine ⟨⟨h.1.1.below hb (by omega), ?_, h.1.2.2.trans (hb.mono (by omega))⟩, (hb.block _ hl).trans h.2⟩
  exact ⟨(hb.cell (p := ⟨w.heap.size + 1, 0, none⟩) (show w.heap.size + 1 < _ by omega)).trans h.1.2.1.1, (hb.cell (p := ⟨w.heap.size + 1, 1, none⟩) (show w.heap.size + 1 < _ by omega)).trans h.1.2.1.2.1, (hb.cell (p := ⟨w.heap.size + 1, 2, none⟩) (show w.heap.size + 1 < _ by omega)).trans h.1.2.1.2.2⟩
theorem ispan (s : Sn) (A1 A2 A3 A4 : Option Addr) (c1 c2 c3 c4 B : Nat) (w : World) (hB : B ≤ w.heap.size) (hr : ReadS w B A1 A2 A3 A4 s) (hn : LenS 1000000000 s) (hn2 : LenT s) (hc : CapT s c2 c3 c4) (p : Pc) (hx : inSn s) (ho : in64 p.off) (hd : p.data.size ≤ 1000000000) :
    Calls Tryz.prog 41 #[snV s (.slice A1 s.rn.cs.length c1) (.slice A2 s.pe.length c2) (.slice A3 s.fl.length c3) (.slice A4 s.ac.length c4), pcV p] w fun e w' => ∃ r : Rg, e = .returned (.tuple #[rgV r, .bool (decide (canA (decide (docSn s)) s p))]) ∧ (canA (decide (docSn s)) s p → r = pcR p) ∧ Below w.heap.size w w' := by
  have HH := LH (InSR.start w s (.slice A1 s.rn.cs.length c1) (.slice A2 s.pe.length c2) (.slice A3 s.fl.length c3) (.slice A4 s.ac.length c4) p)
  have HIS : Hid (∀ W, Below w.heap.size w W → Calls Tryz.prog 36 #[snV s (.slice A1 s.rn.cs.length c1) (.slice A2 s.pe.length c2) (.slice A3 s.fl.length c3) (.slice A4 s.ac.length c4)] W fun e w' => e = .returned (.bool (decide (docSn s ∧ s.st ≤ 2))) ∧ Below W.heap.size W w') := LH fun W h => iisnd s A1 A2 A3 A4 c1 c2 c3 c4 B W (Nat.le_trans hB h.size) (hr.below hB h) hn hn2 hc hx.2.1
  obtain ⟨po, pd, pf⟩ := p
  have ho' : in64 po := ho
  have hd' : pd.size ≤ 1000000000 := hd
  clear hr hn hn2 hc ho hd
  by_cases h0 : docSn s ∧ s.st ≤ 2
  rotate_left
  · have HN : Hid (¬ canA (decide (docSn s)) s ⟨po, pd, pf⟩) := LH fun k => h0 ⟨of_decide_eq_true k.1, k.2.1⟩
    have HV : Hid (decide (canA (decide (docSn s)) s ⟨po, pd, pf⟩) = false) := LH (decide_eq_false HN.out)
    rw [decide_eq_false h0] at HIS
    clear h0 ho' hd' hx
    go_enter Tryz.func41, Tryz.ntmps41
    obtain ⟨⟨⟨a0, a1, a2, a3, a4, a5, a6, a7, a8, a9, a10, a11⟩, ⟨p0, p1, p2⟩, _⟩, hbx⟩ := HH.out
    go_wp2_with fail
    refine (HIS.out _ HH.out.1.2.2).mono ?_
    rintro e w1 ⟨rfl, hb1⟩
    have HH := LH (HH.out.next hb1)
    clear hb1 a0 a1 a2 a3 a4 a5 a6 a7 a8 a9 a10 a11 p0 p1 p2 hbx
    obtain ⟨⟨⟨a0, a1, a2, a3, a4, a5, a6, a7, a8, a9, a10, a11⟩, ⟨p0, p1, p2⟩, _⟩, hbx⟩ := HH.out
    (try simp only at p0 p1 p2)
    obtain ⟨r0, r1⟩ := hbx.cells
    have rf := hbx.free
    go_wp2
    have X := Box.set1 (Box.set0 hbx (((0, 0) : Rg)).1) (((0, 0) : Rg)).2
    refine bodyPost_ret (results_ct rfl _ _ (w.heap.size + 2) _ _ _ _ rfl X Tryz.underlying59 rfl (by kernel_rfl)) rfl ?_
    refine ⟨((0, 0) : Rg), by rw [HV.out]; rfl, fun k => absurd k HN.out, ?_⟩
    exact (HH.out.1.2.2.setCell (p := ⟨w.heap.size + 2, 0, none⟩) (Nat.le_add_right _ _) _).setCell (p := ⟨w.heap.size + 2, 1, none⟩) (Nat.le_add_right _ _) _
  rw [decide_eq_true h0] at HIS
  have hen : 0 ≤ s.rn.en ∧ s.rn.en ≤ 4611686018427387903 := ⟨by have := h0.1.1.2.2.2.2.1; omega, h0.1.1.1.2.2.2.2.2.1⟩
  have hw : wrap64 (s.rn.en - (pd.size : Int)) = s.rn.en - (pd.size : Int) := by unfold wrap64; omega
  by_cases h1 : po < 0
  · have HN : Hid (¬ canA (decide (docSn s)) s ⟨po, pd, pf⟩) := LH fun k => by have : 0 ≤ po := k.2.2.1; omega
    have HV : Hid (decide (canA (decide (docSn s)) s ⟨po, pd, pf⟩) = false) := LH (decide_eq_false HN.out)
    have d1 : decide (po < 0) = true := decide_eq_true h1
    clear h0 h1 ho' hd' hx hen hw
    go_enter Tryz.func41, Tryz.ntmps41
    obtain ⟨⟨⟨a0, a1, a2, a3, a4, a5, a6, a7, a8, a9, a10, a11⟩, ⟨p0, p1, p2⟩, _⟩, hbx⟩ := HH.out
    go_wp2_with fail
    refine (HIS.out _ HH.out.1.2.2).mono ?_
    rintro e w1 ⟨rfl, hb1⟩
    have HH := LH (HH.out.next hb1)
    clear hb1 a0 a1 a2 a3 a4 a5 a6 a7 a8 a9 a10 a11 p0 p1 p2 hbx
    obtain ⟨⟨⟨a0, a1, a2, a3, a4, a5, a6, a7, a8, a9, a10, a11⟩, ⟨p0, p1, p2⟩, _⟩, hbx⟩ := HH.out
    (try simp only at p0 p1 p2)
    obtain ⟨r0, r1⟩ := hbx.cells
    have rf := hbx.free
    go_wp2
    have X := Box.set1 (Box.set0 hbx (((0, 0) : Rg)).1) (((0, 0) : Rg)).2
    refine bodyPost_ret (results_ct rfl _ _ (w.heap.size + 2) _ _ _ _ rfl X Tryz.underlying59 rfl (by kernel_rfl)) rfl ?_
    refine ⟨((0, 0) : Rg), by rw [HV.out]; rfl, fun k => absurd k HN.out, ?_⟩
    exact (HH.out.1.2.2.setCell (p := ⟨w.heap.size + 2, 0, none⟩) (Nat.le_add_right _ _) _).setCell (p := ⟨w.heap.size + 2, 1, none⟩) (Nat.le_add_right _ _) _
  have d1 : decide (po < 0) = false := decide_eq_false h1
  by_cases h2 : s.rn.en - (pd.size : Int) < po
  · have HN : Hid (¬ canA (decide (docSn s)) s ⟨po, pd, pf⟩) := LH fun k => by have : (pd.size : Int) ≤ s.rn.en - po := k.2.2.2.2.1; omega
    have HV : Hid (decide (canA (decide (docSn s)) s ⟨po, pd, pf⟩) = false) := LH (decide_eq_false HN.out)
    have d2 : decide (s.rn.en - (pd.size : Int) < po) = true := decide_eq_true h2
    clear h0 h1 h2 ho' hd' hx hen
    go_enter Tryz.func41, Tryz.ntmps41
    obtain ⟨⟨⟨a0, a1, a2, a3, a4, a5, a6, a7, a8, a9, a10, a11⟩, ⟨p0, p1, p2⟩, _⟩, hbx⟩ := HH.out
    go_wp2_with fail
    refine (HIS.out _ HH.out.1.2.2).mono ?_
    rintro e w1 ⟨rfl, hb1⟩
    have HH := LH (HH.out.next hb1)
    clear hb1 a0 a1 a2 a3 a4 a5 a6 a7 a8 a9 a10 a11 p0 p1 p2 hbx
    obtain ⟨⟨⟨a0, a1, a2, a3, a4, a5, a6, a7, a8, a9, a10, a11⟩, ⟨p0, p1, p2⟩, _⟩, hbx⟩ := HH.out
    (try simp only at p0 p1 p2)
    obtain ⟨r0, r1⟩ := hbx.cells
    have rf := hbx.free
    go_wp2
    have X := Box.set1 (Box.set0 hbx (((0, 0) : Rg)).1) (((0, 0) : Rg)).2
    refine bodyPost_ret (results_ct rfl _ _ (w.heap.size + 2) _ _ _ _ rfl X Tryz.underlying59 rfl (by kernel_rfl)) rfl ?_
    refine ⟨((0, 0) : Rg), by rw [HV.out]; rfl, fun k => absurd k HN.out, ?_⟩
    exact (HH.out.1.2.2.setCell (p := ⟨w.heap.size + 2, 0, none⟩) (Nat.le_add_right _ _) _).setCell (p := ⟨w.heap.size + 2, 1, none⟩) (Nat.le_add_right _ _) _
  have d2 : decide (s.rn.en - (pd.size : Int) < po) = false := decide_eq_false h2
  have hw2 : wrap64 (po + (pd.size : Int)) = po + (pd.size : Int) := by unfold wrap64; omega
  have HIN : Hid (∀ b : Bool, (b = true → s.fin ≠ -1 ∧ po + (pd.size : Int) = s.fin) → canA (decide (docSn s)) s ⟨po, pd, b⟩) := LH fun b k => ⟨decide_eq_true h0.1, h0.2, by show 0 ≤ po; omega, by show po ≤ s.rn.en; omega, by show (pd.size : Int) ≤ s.rn.en - po; omega, k⟩
  have HNN : Hid (0 ≤ po + (pd.size : Int)) := LH (by omega)
  clear h0 h1 h2 ho' hd' hx hen
  cases pf
  · have HV : Hid (decide (canA (decide (docSn s)) s ⟨po, pd, false⟩) = true) := LH (decide_eq_true (HIN.out false fun k => by cases k))
    go_enter Tryz.func41, Tryz.ntmps41
    obtain ⟨⟨⟨a0, a1, a2, a3, a4, a5, a6, a7, a8, a9, a10, a11⟩, ⟨p0, p1, p2⟩, _⟩, hbx⟩ := HH.out
    go_wp2_with fail
    refine (HIS.out _ HH.out.1.2.2).mono ?_
    rintro e w1 ⟨rfl, hb1⟩
    have HH := LH (HH.out.next hb1)
    clear hb1 a0 a1 a2 a3 a4 a5 a6 a7 a8 a9 a10 a11 p0 p1 p2 hbx
    obtain ⟨⟨⟨a0, a1, a2, a3, a4, a5, a6, a7, a8, a9, a10, a11⟩, ⟨p0, p1, p2⟩, _⟩, hbx⟩ := HH.out
    (try simp only at p0 p1 p2)
    obtain ⟨r0, r1⟩ := hbx.cells
    have rf := hbx.free
    clear r0 r1 rf hbx
    have HGX : Hid (w1.heap.size ≠ w.heap.size + 1 + 1) := LH (by have : w.heap.size + 2 < w1.heap.size := (Array.getElem?_eq_some_iff.1 HH.out.2).1; omega)
    go_upto_region 4 with fail
    have HX := LH (Box.new w1 (po, po + (pd.size : Int)))
    have HH := LH (HH.out.next ((Below.refl _ _).alloc (Nat.le_refl _) (.cells #[.int .i64 po, .int .i64 (po + (pd.size : Int))] 59)))
    clear a0 a1 a2 a3 a4 a5 a6 a7 a8 a9 a10 a11 p0 p1 p2
    generalize w1.alloc (.cells #[.int .i64 po, .int .i64 (po + (pd.size : Int))] 59) = w2 at *
    generalize w1.heap.size = gx at *
    obtain ⟨⟨⟨a0, a1, a2, a3, a4, a5, a6, a7, a8, a9, a10, a11⟩, ⟨p0, p1, p2⟩, _⟩, hbx⟩ := HH.out
    (try simp only at p0 p1 p2)
    obtain ⟨r0, r1⟩ := hbx.cells
    have rf := hbx.free
    obtain ⟨x0, x1⟩ := HX.out.cells
    (try simp only at x0 x1)
    have hne := HGX.out
    go_region
    go_wp2
    have X := Box.set1 (Box.set0 hbx po) (po + (pd.size : Int))
    refine bodyPost_ret (results_ct rfl _ _ (w.heap.size + 2) _ _ _ _ rfl X Tryz.underlying59 rfl (by kernel_rfl)) rfl ?_
    refine ⟨po, po + (pd.size : Int), by rw [HV.out]; rfl, fun _ => rfl, ?_⟩
    exact ((HH.out.1.2.2.setCell (p := ⟨w.heap.size + 2, 0, none⟩) (Nat.le_add_right _ _) _).setCell (p := ⟨w.heap.size + 2, 1, none⟩) (Nat.le_add_right _ _) _).drew
  by_cases h5 : po + (pd.size : Int) = s.fin
  · have HV : Hid (decide (canA (decide (docSn s)) s ⟨po, pd, true⟩) = true) := LH (decide_eq_true (HIN.out true fun _ => ⟨fun k => by have := HNN.out; omega, h5⟩))
    have t5 : (po + (pd.size : Int) == s.fin) = true := by simpa using h5
    clear h5
    go_enter Tryz.func41, Tryz.ntmps41
    obtain ⟨⟨⟨a0, a1, a2, a3, a4, a5, a6, a7, a8, a9, a10, a11⟩, ⟨p0, p1, p2⟩, _⟩, hbx⟩ := HH.out
    go_wp2_with fail
    refine (HIS.out _ HH.out.1.2.2).mono ?_
    rintro e w1 ⟨rfl, hb1⟩
    have HH := LH (HH.out.next hb1)
    clear hb1 a0 a1 a2 a3 a4 a5 a6 a7 a8 a9 a10 a11 p0 p1 p2 hbx
    obtain ⟨⟨⟨a0, a1, a2, a3, a4, a5, a6, a7, a8, a9, a10, a11⟩, ⟨p0, p1, p2⟩, _⟩, hbx⟩ := HH.out
    (try simp only at p0 p1 p2)
    obtain ⟨r0, r1⟩ := hbx.cells
    have rf := hbx.free
    clear r0 r1 rf hbx
    have HGX : Hid (w1.heap.size ≠ w.heap.size + 1 + 1) := LH (by have : w.heap.size + 2 < w1.heap.size := (Array.getElem?_eq_some_iff.1 HH.out.2).1; omega)
    go_upto_region 4 with fail
    have HX := LH (Box.new w1 (po, po + (pd.size : Int)))
    have HH := LH (HH.out.next ((Below.refl _ _).alloc (Nat.le_refl _) (.cells #[.int .i64 po, .int .i64 (po + (pd.size : Int))] 59)))
    clear a0 a1 a2 a3 a4 a5 a6 a7 a8 a9 a10 a11 p0 p1 p2
    generalize w1.alloc (.cells #[.int .i64 po, .int .i64 (po + (pd.size : Int))] 59) = w2 at *
    generalize w1.heap.size = gx at *
    obtain ⟨⟨⟨a0, a1, a2, a3, a4, a5, a6, a7, a8, a9, a10, a11⟩, ⟨p0, p1, p2⟩, _⟩, hbx⟩ := HH.out
    (try simp only at p0 p1 p2)
    obtain ⟨r0, r1⟩ := hbx.cells
    have rf := hbx.free
    obtain ⟨x0, x1⟩ := HX.out.cells
    (try simp only at x0 x1)
    have hne := HGX.out
    go_region
    go_wp2
    have X := Box.set1 (Box.set0 hbx po) (po + (pd.size : Int))
    refine bodyPost_ret (results_ct rfl _ _ (w.heap.size + 2) _ _ _ _ rfl X Tryz.underlying59 rfl (by kernel_rfl)) rfl ?_
    refine ⟨po, po + (pd.size : Int), by rw [HV.out]; rfl, fun _ => rfl, ?_⟩
    exact ((HH.out.1.2.2.setCell (p := ⟨w.heap.size + 2, 0, none⟩) (Nat.le_add_right _ _) _).setCell (p := ⟨w.heap.size + 2, 1, none⟩) (Nat.le_add_right _ _) _).drew
  · have HV : Hid (decide (canA (decide (docSn s)) s ⟨po, pd, true⟩) = false) := LH (decide_eq_false fun k => h5 (k.2.2.2.2.2 rfl).2)
    have t5 : (po + (pd.size : Int) == s.fin) = false := by simpa using h5
    clear h5
    go_enter Tryz.func41, Tryz.ntmps41
    obtain ⟨⟨⟨a0, a1, a2, a3, a4, a5, a6, a7, a8, a9, a10, a11⟩, ⟨p0, p1, p2⟩, _⟩, hbx⟩ := HH.out
    go_wp2_with fail
    refine (HIS.out _ HH.out.1.2.2).mono ?_
    rintro e w1 ⟨rfl, hb1⟩
    have HH := LH (HH.out.next hb1)
    clear hb1 a0 a1 a2 a3 a4 a5 a6 a7 a8 a9 a10 a11 p0 p1 p2 hbx
    obtain ⟨⟨⟨a0, a1, a2, a3, a4, a5, a6, a7, a8, a9, a10, a11⟩, ⟨p0, p1, p2⟩, _⟩, hbx⟩ := HH.out
    (try simp only at p0 p1 p2)
    obtain ⟨r0, r1⟩ := hbx.cells
    have rf := hbx.free
    clear r0 r1 rf hbx
    have HGX : Hid (w1.heap.size ≠ w.heap.size + 1 + 1) := LH (by have : w.heap.size + 2 < w1.heap.size := (Array.getElem?_eq_some_iff.1 HH.out.2).1; omega)
    go_upto_region 4 with fail
    have HX := LH (Box.new w1 (po, po + (pd.size : Int)))
    have HH := LH (HH.out.next ((Below.refl _ _).alloc (Nat.le_refl _) (.cells #[.int .i64 po, .int .i64 (po + (pd.size : Int))] 59)))
    clear a0 a1 a2 a3 a4 a5 a6 a7 a8 a9 a10 a11 p0 p1 p2
    generalize w1.alloc (.cells #[.int .i64 po, .int .i64 (po + (pd.size : Int))] 59) = w2 at *
    generalize w1.heap.size = gx at *
    obtain ⟨⟨⟨a0, a1, a2, a3, a4, a5, a6, a7, a8, a9, a10, a11⟩, ⟨p0, p1, p2⟩, _⟩, hbx⟩ := HH.out
    (try simp only at p0 p1 p2)
    obtain ⟨r0, r1⟩ := hbx.cells
    have rf := hbx.free
    obtain ⟨x0, x1⟩ := HX.out.cells
    (try simp only at x0 x1)
    have hne := HGX.out
    go_region
    go_wp2
    have X := Box.set1 (Box.set0 hbx po) (po + (pd.size : Int))
    refine bodyPost_ret (results_ct rfl _ _ (w.heap.size + 2) _ _ _ _ rfl X Tryz.underlying59 rfl (by kernel_rfl)) rfl ?_
    refine ⟨po, po + (pd.size : Int), by rw [HV.out]; rfl, fun _ => rfl, ?_⟩
    exact ((HH.out.1.2.2.setCell (p := ⟨w.heap.size + 2, 0, none⟩) (Nat.le_add_right _ _) _).setCell (p := ⟨w.heap.size + 2, 1, none⟩) (Nat.le_add_right _ _) _).drew
end Go.Proofs.YtdaoaedkjoknmaaGreat
