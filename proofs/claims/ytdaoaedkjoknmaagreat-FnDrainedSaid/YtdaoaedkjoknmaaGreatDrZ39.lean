/-
  Contracts and lemmas for the law on draining.
-/
import Derived.Test.YtdaoaedkjoknmaaGreatDrZ0
import Derived.Test.YtdaoaedkjoknmaaGreatDrZ38
set_option maxRecDepth 1000000
set_option maxHeartbeats 8000000
namespace Go.Proofs.YtdaoaedkjoknmaaGreat
open Go.RowKit Go.Deep Go.Proofs.YtdaoaedkjoknmaaGreat.Num

def nxV (o : Option Pc) : Pc := match o with | some p => p | none => ⟨0, ⟨#[]⟩, false⟩
def BoxPc (w : World) (g : Nat) (p : Pc) : Prop := w.heap[g]? = some (.cells #[.int .i64 p.off, .string p.data, .bool p.fin] 44 (0, 0))
theorem BoxPc.cells {w : World} {g : Nat} {p : Pc} (x : BoxPc w g p) : w.cell? ⟨g, 0, none⟩ = some (.int .i64 p.off) ∧ w.cell? ⟨g, 1, none⟩ = some (.string p.data) ∧ w.cell? ⟨g, 2, none⟩ = some (.bool p.fin) := ⟨cell_of_row w g 0 _ _ _ x, cell_of_row w g 1 _ _ _ x, cell_of_row w g 2 _ _ _ x⟩
theorem BoxPc.free {w : World} {g : Nat} {p : Pc} (x : BoxPc w g p) (k : Nat) : w.frozen? ⟨g, k, none⟩ = false := by
  unfold BoxPc at x
  simp [World.frozen?, x]
theorem BoxPc.new (w : World) (p : Pc) : BoxPc (w.alloc (.cells #[.int .i64 p.off, .string p.data, .bool p.fin] 44)) w.heap.size p := heap_alloc_new w _
theorem BoxPc.lt {w : World} {g : Nat} {p : Pc} (x : BoxPc w g p) : g < w.heap.size := (Array.getElem?_eq_some_iff.1 x).1
theorem BoxPc.below {w w' : World} {g K : Nat} {p : Pc} (x : BoxPc w g p) (hb : Below K w w') (hg : g < K) : BoxPc w' g p := (hb.block g hg).trans x
theorem BoxPc.laid {w : World} {g : Nat} {p : Pc} (x : BoxPc w g p) (q : Pc) : BoxPc (((w.setCell ⟨g, 0, none⟩ (.int .i64 q.off)).setCell ⟨g, 1, none⟩ (.string q.data)).setCell ⟨g, 2, none⟩ (.bool q.fin)) g q := by
  have h := row_put (row_put (row_put x 0 (.int .i64 q.off)) 1 (.string q.data)) 2 (.bool q.fin)
  unfold BoxPc
  simpa using h
def InSO (w : World) (s : Sn) (v1 v2 v3 v4 : Value) (W : World) : Prop := InBS w s v1 v2 v3 v4 W ∧ BoxPc W (w.heap.size + 1) ⟨0, ⟨#[]⟩, false⟩
theorem InSO.start (w : World) (s : Sn) (v1 v2 v3 v4 : Value) : InSO w s v1 v2 v3 v4 ((w.alloc (.cells (snB s v1 v2 v3 v4) 29)).alloc (.cells #[.int .i64 0, .string ⟨#[]⟩, .bool false] 44)) := by
  have h1 : ∀ o1, (w.alloc o1).heap.size = w.heap.size + 1 := fun _ => by simp
  refine ⟨(InBS.start w s v1 v2 v3 v4).next ((Below.refl _ _).alloc (Nat.le_refl _) _), ?_⟩
  have h := BoxPc.new (w.alloc (.cells (snB s v1 v2 v3 v4) 29)) ⟨0, ⟨#[]⟩, false⟩
  rw [h1] at h
  exact h
theorem InSO.next {w : World} {s : Sn} {v1 v2 v3 v4 : Value} {W W' : World} (h : InSO w s v1 v2 v3 v4 W) (hb : Below W.heap.size W W') : InSO w s v1 v2 v3 v4 W' := ⟨h.1.next hb, h.2.below hb h.2.lt⟩
theorem iendp (s : Sn) (v1 v2 v3 v4 : Value) (w : World) :
    Calls Tryz.prog 37 #[snV s v1 v2 v3 v4] w fun e w' => e = .returned (.tuple #[pcV (if s.fi = 1 then ⟨s.fin, ⟨#[]⟩, true⟩ else ⟨0, ⟨#[]⟩, false⟩), .bool (decide (s.fi = 1))]) ∧ Below w.heap.size w w' := by
  have HH := LH (InSO.start w s v1 v2 v3 v4)
  by_cases h : s.fi = 1
  · have t0 : (s.fi != 1) = false := by simpa using h
    rw [if_pos h, decide_eq_true h]
    clear h
    go_enter Tryz.func37, Tryz.ntmps37
    go_upto_region 1 with fail
    generalize (w.alloc (.cells (snB s v1 v2 v3 v4) 29)).alloc (.cells #[.int .i64 0, .string ⟨#[]⟩, .bool false] 44) = w1 at *
    obtain ⟨a0, a1, a2, a3, a4, a5, a6, a7, a8, a9, a10, a11⟩ := HH.out.1.1.cells
    obtain ⟨p0, p1, p2⟩ := HH.out.2.cells
    (try simp only at p0 p1 p2)
    have pf := HH.out.2.free
    go_wp2
    have X := HH.out.2.laid ⟨s.fin, ⟨#[]⟩, true⟩
    refine bodyPost_ret (results_ct rfl _ _ (w.heap.size + 1) _ _ _ _ rfl X Tryz.underlying44 rfl (by kernel_rfl)) rfl ?_
    exact ⟨rfl, ((HH.out.1.2.setCell (p := ⟨w.heap.size + 1, 0, none⟩) (Nat.le_succ _) _).setCell (p := ⟨w.heap.size + 1, 1, none⟩) (Nat.le_succ _) _).setCell (p := ⟨w.heap.size + 1, 2, none⟩) (Nat.le_succ _) _⟩
  · have t0 : (s.fi != 1) = true := by simpa using h
    rw [if_neg h, decide_eq_false h]
    clear h
    go_enter Tryz.func37, Tryz.ntmps37
    go_upto_region 1 with fail
    generalize (w.alloc (.cells (snB s v1 v2 v3 v4) 29)).alloc (.cells #[.int .i64 0, .string ⟨#[]⟩, .bool false] 44) = w1 at *
    obtain ⟨a0, a1, a2, a3, a4, a5, a6, a7, a8, a9, a10, a11⟩ := HH.out.1.1.cells
    obtain ⟨p0, p1, p2⟩ := HH.out.2.cells
    (try simp only at p0 p1 p2)
    have pf := HH.out.2.free
    go_wp2
    have X := HH.out.2.laid ⟨0, ⟨#[]⟩, false⟩
    refine bodyPost_ret (results_ct rfl _ _ (w.heap.size + 1) _ _ _ _ rfl X Tryz.underlying44 rfl (by kernel_rfl)) rfl ?_
    exact ⟨rfl, ((HH.out.1.2.setCell (p := ⟨w.heap.size + 1, 0, none⟩) (Nat.le_succ _) _).setCell (p := ⟨w.heap.size + 1, 1, none⟩) (Nat.le_succ _) _).setCell (p := ⟨w.heap.size + 1, 2, none⟩) (Nat.le_succ _) _⟩
theorem inext (s : Sn) (A1 A2 A3 A4 : Option Addr) (c1 c2 c3 c4 B : Nat) (w : World) (hB : B ≤ w.heap.size) (hr : ReadS w B A1 A2 A3 A4 s) (hn : LenS 1000000000 s) (hn2 : LenT s) (hc : CapT s c2 c3 c4) (m k : Int) (hx : inSn s) (hd : docSn s) :
    Calls Tryz.prog 13 #[snV s (.slice A1 s.rn.cs.length c1) (.slice A2 s.pe.length c2) (.slice A3 s.fl.length c3) (.slice A4 s.ac.length c4), .int .i64 m, .int .i64 k] w fun e w' => e = .returned (.tuple #[pcV (nxV (nxS true s m k)), .bool (nxS true s m k).isSome]) ∧ Below w.heap.size w w' := by
  have HH := LH (InSO.start w s (.slice A1 s.rn.cs.length c1) (.slice A2 s.pe.length c2) (.slice A3 s.fl.length c3) (.slice A4 s.ac.length c4))
  have HIS : Hid (∀ W, Below w.heap.size w W → Calls Tryz.prog 36 #[snV s (.slice A1 s.rn.cs.length c1) (.slice A2 s.pe.length c2) (.slice A3 s.fl.length c3) (.slice A4 s.ac.length c4)] W fun e w' => e = .returned (.bool (decide (docSn s ∧ s.st ≤ 2))) ∧ Below W.heap.size W w') := LH fun W h => iisnd s A1 A2 A3 A4 c1 c2 c3 c4 B W (Nat.le_trans hB h.size) (hr.below hB h) hn hn2 hc hx.2.1
  have HEP := LH fun (W : World) => iendp s (.slice A1 s.rn.cs.length c1) (.slice A2 s.pe.length c2) (.slice A3 s.fl.length c3) (.slice A4 s.ac.length c4) W
  have HSO := LH fun (W : World) => isetsof s (.slice A1 s.rn.cs.length c1) A2 A3 A4 s.pe.length c2 s.fl.length c3 s.ac.length c4 W
  have HF1 : Hid (∀ W : World, (Instr.field 75 (.agg #[.slice A2 s.pe.length c2, .slice A3 s.fl.length c3, .slice A4 s.ac.length c4]) 0).run Tryz.prog W = .ok (.agg #[.slice A2 s.pe.length c2]) W) := LH fun _ => by kernel_rfl
  have HPK : Hid (∀ (W : World) (o n : Int), Below w.heap.size w W → Calls Tryz.prog 40 #[rnV s.rn (.slice A1 s.rn.cs.length c1), .int .i64 o, .int .i64 n] W fun e w' => e = .returned (.tuple #[.string (pkR s.rn o n), .bool (decide (canP s.rn o n))]) ∧ Below W.heap.size W w') := LH fun W o n h => ipeekr s.rn o n A1 c1 B W (Nat.le_trans hB h.size) (hr.1.below hB h) (Nat.le_trans hn.1 (by decide)) hx.2.1
  have HFR : Hid (∀ (x : Rg) (l : List Rg), s.pe = x :: l → ∀ W, Below w.heap.size w W → Calls Tryz.prog 39 #[.agg #[.slice A2 s.pe.length c2], .int .i64 m, .int .i64 k] W fun e w' => ∃ r : Rg, e = .returned (.tuple #[rgV r, .bool (decide (1 ≤ m ∧ x.1 < min (topR x m).2 k))]) ∧ (1 ≤ m → r = (x.1, min (topR x m).2 k)) ∧ Below W.heap.size W w') := LH fun x l he W h => by
    have h2 := hr.2.1.below hB h
    rw [he] at h2 ⊢
    exact ifirst x l m k A2 c2 B W (Nat.le_trans hB h.size) h2 (by rw [← he]; unfold LenT at hn2; omega) (by rw [← he]; exact hd.1.2.1)
  have HNX := LH fun p => nx_ok (s := s) (m := m) (l := k) (p := p) hd
  have HDO := LH hd
  clear hr hn hn2 hc hx hd
  by_cases h0 : s.st ≤ 2
  rotate_left
  · rw [decide_eq_false (fun k => h0 k.2)] at HIS
    rw [show nxS true s m k = none from if_pos (fun h => h0 h.2)]
    clear h0 HEP HSO HF1 HPK HFR HNX HDO
    go_enter Tryz.func13, Tryz.ntmps13
    go_upto_region 1 with fail
    generalize (w.alloc (.cells (snB s (.slice A1 s.rn.cs.length c1) (.slice A2 s.pe.length c2) (.slice A3 s.fl.length c3) (.slice A4 s.ac.length c4)) 29)).alloc (.cells #[.int .i64 0, .string ⟨#[]⟩, .bool false] 44) = w1 at *
    obtain ⟨a0, a1, a2, a3, a4, a5, a6, a7, a8, a9, a10, a11⟩ := HH.out.1.1.cells
    go_wp2_with fail
    refine (HIS.out _ HH.out.1.2).mono ?_
    rintro e w2 ⟨rfl, hb⟩
    have HH := LH (HH.out.next hb)
    clear hb HIS a0 a1 a2 a3 a4 a5 a6 a7 a8 a9 a10 a11
    obtain ⟨a0, a1, a2, a3, a4, a5, a6, a7, a8, a9, a10, a11⟩ := HH.out.1.1.cells
    obtain ⟨p0, p1, p2⟩ := HH.out.2.cells
    (try simp only at p0 p1 p2)
    have pf := HH.out.2.free
    go_wp2
    have X := HH.out.2.laid ⟨0, ⟨#[]⟩, false⟩
    refine bodyPost_ret (results_ct rfl _ _ (w.heap.size + 1) _ _ _ _ rfl X Tryz.underlying44 rfl (by kernel_rfl)) rfl ?_
    exact ⟨rfl, ((HH.out.1.2.setCell (p := ⟨w.heap.size + 1, 0, none⟩) (Nat.le_succ _) _).setCell (p := ⟨w.heap.size + 1, 1, none⟩) (Nat.le_succ _) _).setCell (p := ⟨w.heap.size + 1, 2, none⟩) (Nat.le_succ _) _⟩
  rw [decide_eq_true ⟨HDO.out, h0⟩] at HIS
  have HU : Hid (nxS true s m k = match s.pe with
      | r :: _ => if min r.2 k ≤ r.1 ∨ cutS r m k ≤ r.1 then none else some ⟨r.1, pkR s.rn r.1 (cutS r m k - r.1), decide (s.fi = 1) && decide (cutS r m k = s.fin)⟩
      | [] => if s.fi = 1 then some ⟨s.fin, ⟨#[]⟩, true⟩ else none) := LH (if_neg (fun h => h ⟨rfl, h0⟩))
  clear h0
  by_cases hpe : s.pe = []
  · have hl : ((s.pe.length : Int) == 0) = true := by rw [hpe]; rfl
    rw [hpe] at HU
    have HV : Hid (nxV (nxS true s m k) = (if s.fi = 1 then ⟨s.fin, ⟨#[]⟩, true⟩ else ⟨0, ⟨#[]⟩, false⟩) ∧ (nxS true s m k).isSome = decide (s.fi = 1)) := LH (by
      rw [HU.out]
      dsimp only
      by_cases h : s.fi = 1
      · rw [if_pos h, if_pos h, decide_eq_true h]; exact ⟨rfl, rfl⟩
      · rw [if_neg h, if_neg h, decide_eq_false h]; exact ⟨rfl, rfl⟩)
    rw [HV.out.1, HV.out.2]
    generalize (if s.fi = 1 then (⟨s.fin, ⟨#[]⟩, true⟩ : Pc) else ⟨0, ⟨#[]⟩, false⟩) = pe at *
    generalize decide (s.fi = 1) = be at *
    clear HU HV HSO HF1 HPK HFR HNX HDO hpe
    go_enter Tryz.func13, Tryz.ntmps13
    go_upto_region 1 with fail
    generalize (w.alloc (.cells (snB s (.slice A1 s.rn.cs.length c1) (.slice A2 s.pe.length c2) (.slice A3 s.fl.length c3) (.slice A4 s.ac.length c4)) 29)).alloc (.cells #[.int .i64 0, .string ⟨#[]⟩, .bool false] 44) = w1 at *
    obtain ⟨a0, a1, a2, a3, a4, a5, a6, a7, a8, a9, a10, a11⟩ := HH.out.1.1.cells
    go_wp2_with fail
    refine (HIS.out _ HH.out.1.2).mono ?_
    rintro e w2 ⟨rfl, hb⟩
    have HH := LH (HH.out.next hb)
    clear hb HIS a0 a1 a2 a3 a4 a5 a6 a7 a8 a9 a10 a11
    obtain ⟨a0, a1, a2, a3, a4, a5, a6, a7, a8, a9, a10, a11⟩ := HH.out.1.1.cells
    obtain ⟨p0, p1, p2⟩ := HH.out.2.cells
    (try simp only at p0 p1 p2)
    have pf := HH.out.2.free
    go_wp2_with fail
    refine (HEP.out _).mono ?_
    rintro e w3 ⟨rfl, hb⟩
    have HH := LH (HH.out.next hb)
    clear hb p0 p1 p2 pf
    obtain ⟨p0, p1, p2⟩ := HH.out.2.cells
    (try simp only at p0 p1 p2)
    have pf := HH.out.2.free
    go_wp2
    have X := HH.out.2.laid pe
    refine bodyPost_ret (results_ct rfl _ _ (w.heap.size + 1) _ _ _ _ rfl X Tryz.underlying44 rfl (by kernel_rfl)) rfl ?_
    exact ⟨rfl, ((HH.out.1.2.setCell (p := ⟨w.heap.size + 1, 0, none⟩) (Nat.le_succ _) _).setCell (p := ⟨w.heap.size + 1, 1, none⟩) (Nat.le_succ _) _).setCell (p := ⟨w.heap.size + 1, 2, none⟩) (Nat.le_succ _) _⟩
  obtain ⟨x, l, he⟩ : ∃ x l, s.pe = x :: l := by
    cases h : s.pe with
    | nil => exact absurd h hpe
    | cons x l => exact ⟨x, l, rfl⟩
  have hl : ((s.pe.length : Int) == 0) = false := by rw [he]; simp; omega
  have hxx : x.1 < x.2 := (okR.below HDO.out.1.2.1 x (by rw [he]; exact List.mem_cons_self ..)).2.1
  obtain ⟨hcut1, hcut2⟩ := first_cut (m := m) (l := k) hxx
  have HFR := LH (HFR.out x l he)
  rw [he] at HU
  have HU : Hid (nxS true s m k = if min x.2 k ≤ x.1 ∨ cutS x m k ≤ x.1 then none else some ⟨x.1, pkR s.rn x.1 (cutS x m k - x.1), decide (s.fi = 1) && decide (cutS x m k = s.fin)⟩) := LH HU.out
  by_cases hcc : min x.2 k ≤ x.1 ∨ cutS x m k ≤ x.1
  · rw [decide_eq_false (fun h => hcut1.1 h hcc)] at HFR
    rw [HU.out, if_pos hcc]
    clear hcc hcut1 hcut2 hxx he hpe HU HEP HPK HNX HDO
    go_enter Tryz.func13, Tryz.ntmps13
    go_upto_region 1 with fail
    generalize (w.alloc (.cells (snB s (.slice A1 s.rn.cs.length c1) (.slice A2 s.pe.length c2) (.slice A3 s.fl.length c3) (.slice A4 s.ac.length c4)) 29)).alloc (.cells #[.int .i64 0, .string ⟨#[]⟩, .bool false] 44) = w1 at *
    obtain ⟨a0, a1, a2, a3, a4, a5, a6, a7, a8, a9, a10, a11⟩ := HH.out.1.1.cells
    go_wp2_with fail
    refine (HIS.out _ HH.out.1.2).mono ?_
    rintro e w2 ⟨rfl, hb⟩
    have HH := LH (HH.out.next hb)
    clear hb HIS a0 a1 a2 a3 a4 a5 a6 a7 a8 a9 a10 a11
    obtain ⟨a0, a1, a2, a3, a4, a5, a6, a7, a8, a9, a10, a11⟩ := HH.out.1.1.cells
    obtain ⟨p0, p1, p2⟩ := HH.out.2.cells
    (try simp only at p0 p1 p2)
    have pf := HH.out.2.free
    have hf1 := HF1.out
    go_wp2_with fail
    refine (HSO.out _).mono ?_
    rintro e w3 ⟨rfl, hb⟩
    have HH := LH (HH.out.next hb)
    clear hb HSO a0 a1 a2 a3 a4 a5 a6 a7 a8 a9 a10 a11 p0 p1 p2 pf
    go_wp2_with fail
    refine (HFR.out w3 HH.out.1.2).mono ?_
    rintro e w4 ⟨r, rfl, hrr, hb⟩
    have HRR := LH hrr
    have HH := LH (HH.out.next hb)
    have HXR := LH (Box.new w4 r)
    have HH := LH (HH.out.next ((Below.refl _ _).alloc (Nat.le_refl _) (.cells #[.int .i64 r.1, .int .i64 r.2] 59)))
    clear hb hrr HFR hf1
    go_upto_region 6 with fail
    generalize w4.alloc (.cells #[.int .i64 r.1, .int .i64 r.2] 59) = w5 at *
    generalize w4.heap.size = gr at *
    obtain ⟨a0, a1, a2, a3, a4, a5, a6, a7, a8, a9, a10, a11⟩ := HH.out.1.1.cells
    obtain ⟨p0, p1, p2⟩ := HH.out.2.cells
    (try simp only at p0 p1 p2)
    have pf := HH.out.2.free
    go_wp2
    have X := HH.out.2.laid ⟨0, ⟨#[]⟩, false⟩
    refine bodyPost_ret (results_ct rfl _ _ (w.heap.size + 1) _ _ _ _ rfl X Tryz.underlying44 rfl (by kernel_rfl)) rfl ?_
    exact ⟨rfl, ((HH.out.1.2.setCell (p := ⟨w.heap.size + 1, 0, none⟩) (Nat.le_succ _) _).setCell (p := ⟨w.heap.size + 1, 1, none⟩) (Nat.le_succ _) _).setCell (p := ⟨w.heap.size + 1, 2, none⟩) (Nat.le_succ _) _⟩
  have hgo := hcut1.2 hcc
  rw [decide_eq_true hgo] at HFR
  have hcut := hcut2 hgo.1 hgo.2
  have hnx : nxS true s m k = some ⟨x.1, pkR s.rn x.1 (cutS x m k - x.1), decide (s.fi = 1) && decide (cutS x m k = s.fin)⟩ := by rw [HU.out, if_neg hcc]
  have HSZ : Hid (canP s.rn x.1 (cutS x m k - x.1)) := LH (by
    by_cases h9 : canP s.rn x.1 (cutS x m k - x.1)
    · exact h9
    · have h8 := (HNX.out _ hnx).2.2.2.2.2.1.2.2.2.1
      have h7 : pkR s.rn x.1 (cutS x m k - x.1) = ⟨#[]⟩ := if_neg h9
      have hq := HDO.out.low (by have := (HNX.out _ hnx).2.2.2.2.2.1.2.1; omega)
      have hm : ∀ n, x.1 ≤ n → n < x.2 → hasR s.pe n := fun n a b => by rw [he]; exact ⟨x, List.mem_cons_self .., a, b⟩
      have hcq := cutS_in (r := x) (m := m) (l := k) (by omega)
      have l1 := pe_low hq.2.1 hq.2.2 (hm x.1 (Int.le_refl _) hxx) hq.1.2.2.2.1
      have l2 := pe_low hq.2.1 hq.2.2 (hm (x.2 - 1) (by omega) (by omega)) hq.1.2.2.2.1
      exact absurd ⟨hq.1.1, l1.1, by omega, by have := hq.1.1.2.2.2.2.2.2; omega, by omega⟩ h9)
  rw [hnx]
  have hwr : wrap64 (cutS x m k - x.1) = cutS x m k - x.1 := by
    have h1 := HSZ.out.2.1
    have h2 := HSZ.out.2.2.1
    have h3 := HSZ.out.2.2.2.2
    have h4 := HDO.out.1.1
    unfold wrap64
    have h5 := h4.2.2.1
    have h6 := h4.2.2.2.2.2.1
    omega
  have HR0 : Hid (1 ≤ m ∧ min (topR x m).2 k = cutS x m k) := LH ⟨hgo.1, hcut⟩
  clear hcc hcut1 hcut2 hgo hcut hxx he hpe HU HEP HNX hnx
  generalize cutS x m k = cu at *
  have HP9 := LH fun W h => HPK.out W x.1 (cu - x.1) h
  rw [decide_eq_true HSZ.out] at HP9
  obtain ⟨fb, HFB⟩ : ∃ fb, Hid (fb = (decide (s.fi = 1) && decide (cu = s.fin))) := ⟨_, LH rfl⟩
  rw [← HFB.out]
  clear HPK HSZ
  generalize pkR s.rn x.1 (cu - x.1) = data at *
  go_enter Tryz.func13, Tryz.ntmps13
  go_upto_region 1 with fail
  generalize (w.alloc (.cells (snB s (.slice A1 s.rn.cs.length c1) (.slice A2 s.pe.length c2) (.slice A3 s.fl.length c3) (.slice A4 s.ac.length c4)) 29)).alloc (.cells #[.int .i64 0, .string ⟨#[]⟩, .bool false] 44) = w1 at *
  obtain ⟨a0, a1, a2, a3, a4, a5, a6, a7, a8, a9, a10, a11⟩ := HH.out.1.1.cells
  go_wp2_with fail
  refine (HIS.out _ HH.out.1.2).mono ?_
  rintro e w2 ⟨rfl, hb⟩
  have HH := LH (HH.out.next hb)
  clear hb HIS a0 a1 a2 a3 a4 a5 a6 a7 a8 a9 a10 a11
  obtain ⟨a0, a1, a2, a3, a4, a5, a6, a7, a8, a9, a10, a11⟩ := HH.out.1.1.cells
  obtain ⟨p0, p1, p2⟩ := HH.out.2.cells
  (try simp only at p0 p1 p2)
  have pf := HH.out.2.free
  have hf1 := HF1.out
  go_wp2_with fail
  refine (HSO.out _).mono ?_
  rintro e w3 ⟨rfl, hb⟩
  have HH := LH (HH.out.next hb)
  clear hb HSO a0 a1 a2 a3 a4 a5 a6 a7 a8 a9 a10 a11 p0 p1 p2 pf
  go_wp2_with fail
  refine (HFR.out w3 HH.out.1.2).mono ?_
  rintro e w4 ⟨r, rfl, hrr, hb⟩
  have HRR := LH hrr
  have HH := LH (HH.out.next hb)
  have HXR := LH (Box.new w4 r)
  have HH := LH (HH.out.next ((Below.refl _ _).alloc (Nat.le_refl _) (.cells #[.int .i64 r.1, .int .i64 r.2] 59)))
  clear hb hrr HFR hf1
  go_upto_region 6 with fail
  generalize w4.alloc (.cells #[.int .i64 r.1, .int .i64 r.2] 59) = w5 at *
  generalize w4.heap.size = gr at *
  obtain ⟨a0, a1, a2, a3, a4, a5, a6, a7, a8, a9, a10, a11⟩ := HH.out.1.1.cells
  obtain ⟨p0, p1, p2⟩ := HH.out.2.cells
  (try simp only at p0 p1 p2)
  have pf := HH.out.2.free
  have hr9 := HRR.out HR0.out.1
  rw [HR0.out.2] at hr9
  subst hr9
  obtain ⟨r0, r1⟩ := HXR.out.cells
  (try simp only at r0 r1)
  clear HRR HR0
  go_wp2_with fail
  refine (HP9.out w5 HH.out.1.2).mono ?_
  rintro e w6 ⟨rfl, hb⟩
  have HH := LH (HH.out.next hb)
  have HXR : Hid (Box w6 gr (x.1, cu)) := LH ((hb.block gr (Array.getElem?_eq_some_iff.1 HXR.out).1).trans HXR.out)
  clear hb a0 a1 a2 a3 a4 a5 a6 a7 a8 a9 a10 a11 p0 p1 p2 pf r0 r1 HP9
  obtain ⟨a0, a1, a2, a3, a4, a5, a6, a7, a8, a9, a10, a11⟩ := HH.out.1.1.cells
  obtain ⟨p0, p1, p2⟩ := HH.out.2.cells
  (try simp only at p0 p1 p2)
  have pf := HH.out.2.free
  obtain ⟨r0, r1⟩ := HXR.out.cells
  (try simp only at r0 r1)
  by_cases h5 : s.fi = 1
  · have t5 : (s.fi == 1) = true := by simpa using h5
    rw [decide_eq_true h5, Bool.true_and] at HFB
    obtain rfl := HFB.out
    clear h5 HFB
    go_wp2
    have X := HH.out.2.laid ⟨x.1, data, decide (cu = s.fin)⟩
    refine bodyPost_ret (results_ct rfl _ _ (w.heap.size + 1) _ _ _ _ rfl X Tryz.underlying44 rfl (by kernel_rfl)) rfl ?_
    exact ⟨rfl, ((HH.out.1.2.setCell (p := ⟨w.heap.size + 1, 0, none⟩) (Nat.le_succ _) _).setCell (p := ⟨w.heap.size + 1, 1, none⟩) (Nat.le_succ _) _).setCell (p := ⟨w.heap.size + 1, 2, none⟩) (Nat.le_succ _) _⟩
  · have t5 : (s.fi == 1) = false := by simpa using h5
    rw [decide_eq_false h5, Bool.false_and] at HFB
    obtain rfl := HFB.out
    clear h5 HFB
    go_wp2
    have X := HH.out.2.laid ⟨x.1, data, false⟩
    refine bodyPost_ret (results_ct rfl _ _ (w.heap.size + 1) _ _ _ _ rfl X Tryz.underlying44 rfl (by kernel_rfl)) rfl ?_
    exact ⟨rfl, ((HH.out.1.2.setCell (p := ⟨w.heap.size + 1, 0, none⟩) (Nat.le_succ _) _).setCell (p := ⟨w.heap.size + 1, 1, none⟩) (Nat.le_succ _) _).setCell (p := ⟨w.heap.size + 1, 2, none⟩) (Nat.le_succ _) _⟩
end Go.Proofs.YtdaoaedkjoknmaaGreat
