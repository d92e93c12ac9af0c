/-
  Contracts and lemmas for the law on draining.
-/
import Derived.Test.YtdaoaedkjoknmaaGreatDrZ0
import Derived.Test.YtdaoaedkjoknmaaGreatDrZ38
set_option maxRecDepth 1000000
set_option maxHeartbeats 8000000
namespace Go.Proofs.YtdaoaedkjoknmaaGreat
open Go.RowKit Go.Deep Go.Proofs.YtdaoaedkjoknmaaGreat.Num

theorem data_emptyI (d : ByteArray) : d.toList.isEmpty = decide (d.size = 0) := by
  rw [ByteArray.toList_eq]
  cases h : d.data.toList with
  | nil =>
    have : d.size = 0 := by have := congrArg List.length h; simpa using this
    simp [this]
  | cons x y =>
    have : d.size ≠ 0 := by have := congrArg List.length h; simp at this; omega
    simp [this]
def InSQ (w : World) (s : Sn) (v1 v2 v3 v4 : Value) (p : Pc) (q : Rg) (W : World) : Prop := InSP w s v1 v2 v3 v4 p W ∧ Box W (w.heap.size + 2) q
theorem InSQ.start (w : World) (s : Sn) (v1 v2 v3 v4 : Value) (p : Pc) (q : Rg) : InSQ w s v1 v2 v3 v4 p q (((w.alloc (.cells (snB s v1 v2 v3 v4) 29)).alloc (.cells #[.int .i64 p.off, .string p.data, .bool p.fin] 44)).alloc (.cells #[.int .i64 q.1, .int .i64 q.2] 59)) := by
  have hz : ((w.alloc (.cells (snB s v1 v2 v3 v4) 29)).alloc (.cells #[.int .i64 p.off, .string p.data, .bool p.fin] 44)).heap.size = w.heap.size + 2 := by simp
  have h := InSP.start w s v1 v2 v3 v4 p
  have hb := Box.new ((w.alloc (.cells (snB s v1 v2 v3 v4) 29)).alloc (.cells #[.int .i64 p.off, .string p.data, .bool p.fin] 44)) q
  rw [hz] at hb
  have hb3 : Below (w.heap.size + 2) _ _ := (Below.refl (w.heap.size + 2) ((w.alloc (.cells (snB s v1 v2 v3 v4) 29)).alloc (.cells #[.int .i64 p.off, .string p.data, .bool p.fin] 44))).alloc (Nat.le_of_eq hz.symm) (.cells #[.int .i64 q.1, .int .i64 q.2] 59)
  refine ⟨⟨h.1.below hb3 (by omega), ?_, h.2.2.trans (hb3.mono (by omega))⟩, hb⟩
  exact ⟨(hb3.cell (p := ⟨w.heap.size + 1, 0, none⟩) (Nat.lt_succ_self _)).trans h.2.1.1, (hb3.cell (p := ⟨w.heap.size + 1, 1, none⟩) (Nat.lt_succ_self _)).trans h.2.1.2.1, (hb3.cell (p := ⟨w.heap.size + 1, 2, none⟩) (Nat.lt_succ_self _)).trans h.2.1.2.2⟩
theorem InSQ.next {w : World} {s : Sn} {v1 v2 v3 v4 : Value} {p : Pc} {q : Rg} {W W' : World} (h : InSQ w s v1 v2 v3 v4 p q W) (hb : Below W.heap.size W W') : InSQ w s v1 v2 v3 v4 p q W' := by
  have hl : w.heap.size + 2 < W.heap.size := (Array.getElem?_eq_some_iff.1 h.2).1
  refine ⟨⟨h.1.1.below hb (by omega), ?_, h.1.2.2.trans (hb.mono (by omega))⟩, (hb.block _ hl).trans h.2⟩
  exact ⟨(hb.cell (p := ⟨w.heap.size + 1, 0, none⟩) (show w.heap.size + 1 < _ by omega)).trans h.1.2.1.1, (hb.cell (p := ⟨w.heap.size + 1, 1, none⟩) (show w.heap.size + 1 < _ by omega)).trans h.1.2.1.2.1, (hb.cell (p := ⟨w.heap.size + 1, 2, none⟩) (show w.heap.size + 1 < _ by omega)).trans h.1.2.1.2.2⟩
def sblS (s : Sn) (p : Pc) (q : Rg) : Prop := (p.fin = true → s.fi = 1) ∧ if p.data.size = 0 then p.fin = true else hldS s.pe q
instance (s : Sn) (p : Pc) (q : Rg) : Decidable (sblS s p q) := by unfold sblS; infer_instance
theorem sblS_can {s : Sn} {p : Pc} (hc : canA (decide (docSn s)) s p) : sblS s p (pcR p) ↔ canS (decide (docSn s)) s p := by
  have hd : docSn s := of_decide_eq_true hc.1
  have hok := hd.1.2.1
  have he : s.rn.en ≤ 4611686018427387903 := hd.1.1.2.2.2.2.2.1
  have hin := hc.2.2
  unfold sblS canS
  by_cases hz : p.data.size = 0
  · rw [if_pos hz]
    exact ⟨fun h => ⟨⟨hc.1, hc.2.1, hin, .inr h.2, h.1⟩, fun k => absurd hz k⟩, fun h => ⟨h.1.2.2.2.2, h.1.2.2.2.1.resolve_left fun k => k hz⟩⟩
  · rw [if_neg hz]
    have key : hldS s.pe (pcR p) ↔ comR s.pe [pcR p] = [pcR p] := hldS_com hok hin.1 (by show p.off < p.off + (p.data.size : Int); omega) (by show p.off + (p.data.size : Int) ≤ _; have := hin.2.2.1; omega)
    rw [key]
    exact ⟨fun h => ⟨⟨hc.1, hc.2.1, hin, .inl hz, h.1⟩, fun _ => h.2⟩, fun h => ⟨h.1.2.2.2.2, h.2 hz⟩⟩
theorem isndbl (s : Sn) (p : Pc) (q : Rg) (A1 A2 A3 A4 : Option Addr) (c1 c2 c3 c4 B : Nat) (w : World) (hB : B ≤ w.heap.size) (hr : ReadS w B A1 A2 A3 A4 s) (hn : s.pe.length ≤ 1000000) :
    Calls Tryz.prog 42 #[snV s (.slice A1 s.rn.cs.length c1) (.slice A2 s.pe.length c2) (.slice A3 s.fl.length c3) (.slice A4 s.ac.length c4), pcV p, rgV q] w fun e w' => e = .returned (.bool (decide (sblS s p q))) ∧ Below w.heap.size w w' := by
  obtain ⟨po, pd, pf⟩ := p
  have HH := LH (InSQ.start w s (.slice A1 s.rn.cs.length c1) (.slice A2 s.pe.length c2) (.slice A3 s.fl.length c3) (.slice A4 s.ac.length c4) ⟨po, pd, pf⟩ q)
  have HHO : Hid (∀ W, Below w.heap.size w W → Calls Tryz.prog 100 #[.agg #[.slice A2 s.pe.length c2], rgV q] W fun e w' => e = .returned (.bool (decide (hldS s.pe q))) ∧ Below W.heap.size W w') := LH fun W h => iholds s.pe q A2 c2 B W (Nat.le_trans hB h.size) (hr.2.1.below hB h) hn
  have HSO : Hid (∀ W, Calls Tryz.prog 38 #[snV s (.slice A1 s.rn.cs.length c1) (.slice A2 s.pe.length c2) (.slice A3 s.fl.length c3) (.slice A4 s.ac.length c4)] W fun e w' => e = .returned (.agg #[.slice A2 s.pe.length c2, .slice A3 s.fl.length c3, .slice A4 s.ac.length c4]) ∧ Below W.heap.size W w') := LH fun W => isetsof s _ A2 A3 A4 _ c2 _ c3 _ c4 W
  have HF1 : Hid (∀ W : World, (Instr.field 75 (.agg #[.slice A2 s.pe.length c2, .slice A3 s.fl.length c3, .slice A4 s.ac.length c4]) 0).run Tryz.prog W = .ok (.agg #[.slice A2 s.pe.length c2]) W) := LH fun _ => by kernel_rfl
  have HF2 : Hid (∀ W : World, (Instr.field 72 (.agg #[.slice A2 s.pe.length c2]) 0).run Tryz.prog W = .ok (.agg #[.slice A2 s.pe.length c2]) W) := LH fun _ => by kernel_rfl
  clear hr hn
  cases pf
  · skip
    by_cases hz : pd.size = 0
    · have hemp : pd.toList.isEmpty = true := by rw [data_emptyI]; exact decide_eq_true hz
      have HV : Hid (decide (sblS s ⟨po, pd, false⟩ q) = false) := LH (decide_eq_false fun k => by have := k.2; rw [if_pos hz] at this; cases this)
      clear hz HHO HSO
      go_enter Tryz.func42, Tryz.ntmps42
      obtain ⟨⟨⟨a0, a1, a2, a3, a4, a5, a6, a7, a8, a9, a10, a11⟩, ⟨p0, p1, p2⟩, _⟩, hbx⟩ := HH.out
      (try simp only at p0 p1 p2)
      obtain ⟨r0, r1⟩ := hbx.cells
      clear hbx
      go_wp2
      go_ret
      exact ⟨by rw [HV.out]; rfl, HH.out.1.2.2⟩
    · have hemp : pd.toList.isEmpty = false := by rw [data_emptyI]; exact decide_eq_false hz
      have HV : Hid (decide (sblS s ⟨po, pd, false⟩ q) = decide (hldS s.pe q)) := LH (decide_eq_decide.2 ⟨fun k => by have := k.2; rwa [if_neg hz] at this, fun k => ⟨(fun k => by cases k), by rw [if_neg hz]; exact k⟩⟩)
      rw [HV.out]
      clear hz HV
      generalize decide (hldS s.pe q) = bh at *
      go_enter Tryz.func42, Tryz.ntmps42
      obtain ⟨⟨⟨a0, a1, a2, a3, a4, a5, a6, a7, a8, a9, a10, a11⟩, ⟨p0, p1, p2⟩, _⟩, hbx⟩ := HH.out
      (try simp only at p0 p1 p2)
      obtain ⟨r0, r1⟩ := hbx.cells
      clear hbx
      clear a0 a1 a2 a3 a4 a5 a6 a7 a8 a9 a10 a11 p0 p1 p2 r0 r1
      have HSS : Hid (∀ W, InSQ w s (.slice A1 s.rn.cs.length c1) (.slice A2 s.pe.length c2) (.slice A3 s.fl.length c3) (.slice A4 s.ac.length c4) ⟨po, pd, false⟩ q W → W.cell? ⟨w.heap.size, 0, none⟩ = some (.int .i64 s.st) ∧ W.cell? ⟨w.heap.size, 1, none⟩ = some (.int .i64 s.rn.size) ∧ W.cell? ⟨w.heap.size, 2, none⟩ = some (.int .i64 s.rn.base) ∧ W.cell? ⟨w.heap.size, 3, none⟩ = some (.int .i64 s.rn.en) ∧ W.cell? ⟨w.heap.size, 4, none⟩ = some (.slice A1 s.rn.cs.length c1) ∧ W.cell? ⟨w.heap.size, 5, none⟩ = some (.slice A2 s.pe.length c2) ∧ W.cell? ⟨w.heap.size, 6, none⟩ = some (.slice A3 s.fl.length c3) ∧ W.cell? ⟨w.heap.size, 7, none⟩ = some (.slice A4 s.ac.length c4) ∧ W.cell? ⟨w.heap.size, 8, none⟩ = some (.int .i64 s.fin) ∧ W.cell? ⟨w.heap.size, 9, none⟩ = some (.int .i64 s.fi) ∧ W.cell? ⟨w.heap.size, 10, none⟩ = some (.int .i64 s.sent) ∧ W.cell? ⟨w.heap.size, 11, none⟩ = some (.int .i64 s.code) ∧ W.cell? ⟨w.heap.size + 2, 0, none⟩ = some (.int .i64 q.1) ∧ W.cell? ⟨w.heap.size + 2, 1, none⟩ = some (.int .i64 q.2)) := LH fun W h => by
        obtain ⟨⟨⟨a0, a1, a2, a3, a4, a5, a6, a7, a8, a9, a10, a11⟩, _, _⟩, hbx⟩ := h
        obtain ⟨r0, r1⟩ := hbx.cells
        exact ⟨a0, a1, a2, a3, a4, a5, a6, a7, a8, a9, a10, a11, r0, r1⟩
      obtain ⟨⟨⟨a0, a1, a2, a3, a4, a5, a6, a7, a8, a9, a10, a11⟩, ⟨p0, p1, p2⟩, _⟩, hbx⟩ := HH.out
      (try simp only at p0 p1 p2)
      obtain ⟨r0, r1⟩ := hbx.cells
      have hf1 := HF1.out
      have hf2 := HF2.out
      go_upto_region 5 with fail
      generalize ((w.alloc (.cells (snB s (.slice A1 s.rn.cs.length c1) (.slice A2 s.pe.length c2) (.slice A3 s.fl.length c3) (.slice A4 s.ac.length c4)) 29)).alloc (.cells #[.int .i64 po, .string pd, .bool false] 44)).alloc (.cells #[.int .i64 q.1, .int .i64 q.2] 59) = w2 at *
      have HD := LH (HH.out.next (Below.refl _ _).drew)
      have HS0 := LH (HSS.out _ HD.out)
      go_region_held3 (fun W => W.cell? ⟨w.heap.size, 0, none⟩ = some (.int .i64 s.st) ∧ W.cell? ⟨w.heap.size, 1, none⟩ = some (.int .i64 s.rn.size) ∧ W.cell? ⟨w.heap.size, 2, none⟩ = some (.int .i64 s.rn.base) ∧ W.cell? ⟨w.heap.size, 3, none⟩ = some (.int .i64 s.rn.en) ∧ W.cell? ⟨w.heap.size, 4, none⟩ = some (.slice A1 s.rn.cs.length c1) ∧ W.cell? ⟨w.heap.size, 5, none⟩ = some (.slice A2 s.pe.length c2) ∧ W.cell? ⟨w.heap.size, 6, none⟩ = some (.slice A3 s.fl.length c3) ∧ W.cell? ⟨w.heap.size, 7, none⟩ = some (.slice A4 s.ac.length c4) ∧ W.cell? ⟨w.heap.size, 8, none⟩ = some (.int .i64 s.fin) ∧ W.cell? ⟨w.heap.size, 9, none⟩ = some (.int .i64 s.fi) ∧ W.cell? ⟨w.heap.size, 10, none⟩ = some (.int .i64 s.sent) ∧ W.cell? ⟨w.heap.size, 11, none⟩ = some (.int .i64 s.code) ∧ W.cell? ⟨w.heap.size + 2, 0, none⟩ = some (.int .i64 q.1) ∧ W.cell? ⟨w.heap.size + 2, 1, none⟩ = some (.int .i64 q.2)) (first | with_reducible exact HS0.out | with_reducible exact HSA.out | with_reducible exact HSB.out) (first
        | (go_at_call 38; refine (HSO.out _).mono ?_; rintro e w3 ⟨rfl, hb⟩; have HD3 := LH (HD.out.next hb); have HSA := LH (HSS.out _ HD3.out); clear hb)
        | (go_at_call 100; refine (HHO.out w3 HD3.out.1.2.2).mono ?_; rintro e w4 ⟨rfl, hb⟩; have HD4 := LH (HD3.out.next hb); have HSB := LH (HSS.out _ HD4.out); clear hb))
      go_wp2
      go_ret
      exact ⟨rfl, HD4.out.1.2.2⟩
  by_cases h4 : s.fi = 1
  rotate_left
  · have t4 : (s.fi != 1) = true := by simpa using h4
    have HV : Hid (decide (sblS s ⟨po, pd, true⟩ q) = false) := LH (decide_eq_false fun k => h4 (k.1 rfl))
    clear h4 HHO HSO
    go_enter Tryz.func42, Tryz.ntmps42
    obtain ⟨⟨⟨a0, a1, a2, a3, a4, a5, a6, a7, a8, a9, a10, a11⟩, ⟨p0, p1, p2⟩, _⟩, hbx⟩ := HH.out
    (try simp only at p0 p1 p2)
    obtain ⟨r0, r1⟩ := hbx.cells
    clear hbx
    go_wp2
    go_ret
    exact ⟨by rw [HV.out]; rfl, HH.out.1.2.2⟩
  have t4 : (s.fi != 1) = false := by simpa using h4
  by_cases hz : pd.size = 0
  · have hemp : pd.toList.isEmpty = true := by rw [data_emptyI]; exact decide_eq_true hz
    have HV : Hid (decide (sblS s ⟨po, pd, true⟩ q) = true) := LH (decide_eq_true ⟨fun _ => h4, by rw [if_pos hz]⟩)
    clear hz HHO HSO
    clear h4
    go_enter Tryz.func42, Tryz.ntmps42
    obtain ⟨⟨⟨a0, a1, a2, a3, a4, a5, a6, a7, a8, a9, a10, a11⟩, ⟨p0, p1, p2⟩, _⟩, hbx⟩ := HH.out
    (try simp only at p0 p1 p2)
    obtain ⟨r0, r1⟩ := hbx.cells
    clear hbx
    go_wp2
    go_ret
    exact ⟨by rw [HV.out]; rfl, HH.out.1.2.2⟩
  · have hemp : pd.toList.isEmpty = false := by rw [data_emptyI]; exact decide_eq_false hz
    have HV : Hid (decide (sblS s ⟨po, pd, true⟩ q) = decide (hldS s.pe q)) := LH (decide_eq_decide.2 ⟨fun k => by have := k.2; rwa [if_neg hz] at this, fun k => ⟨fun _ => h4, by rw [if_neg hz]; exact k⟩⟩)
    rw [HV.out]
    clear hz HV h4
    generalize decide (hldS s.pe q) = bh at *
    go_enter Tryz.func42, Tryz.ntmps42
    obtain ⟨⟨⟨a0, a1, a2, a3, a4, a5, a6, a7, a8, a9, a10, a11⟩, ⟨p0, p1, p2⟩, _⟩, hbx⟩ := HH.out
    (try simp only at p0 p1 p2)
    obtain ⟨r0, r1⟩ := hbx.cells
    clear hbx
    clear a0 a1 a2 a3 a4 a5 a6 a7 a8 a9 a10 a11 p0 p1 p2 r0 r1
    have HSS : Hid (∀ W, InSQ w s (.slice A1 s.rn.cs.length c1) (.slice A2 s.pe.length c2) (.slice A3 s.fl.length c3) (.slice A4 s.ac.length c4) ⟨po, pd, true⟩ q W → W.cell? ⟨w.heap.size, 0, none⟩ = some (.int .i64 s.st) ∧ W.cell? ⟨w.heap.size, 1, none⟩ = some (.int .i64 s.rn.size) ∧ W.cell? ⟨w.heap.size, 2, none⟩ = some (.int .i64 s.rn.base) ∧ W.cell? ⟨w.heap.size, 3, none⟩ = some (.int .i64 s.rn.en) ∧ W.cell? ⟨w.heap.size, 4, none⟩ = some (.slice A1 s.rn.cs.length c1) ∧ W.cell? ⟨w.heap.size, 5, none⟩ = some (.slice A2 s.pe.length c2) ∧ W.cell? ⟨w.heap.size, 6, none⟩ = some (.slice A3 s.fl.length c3) ∧ W.cell? ⟨w.heap.size, 7, none⟩ = some (.slice A4 s.ac.length c4) ∧ W.cell? ⟨w.heap.size, 8, none⟩ = some (.int .i64 s.fin) ∧ W.cell? ⟨w.heap.size, 9, none⟩ = some (.int .i64 s.fi) ∧ W.cell? ⟨w.heap.size, 10, none⟩ = some (.int .i64 s.sent) ∧ W.cell? ⟨w.heap.size, 11, none⟩ = some (.int .i64 s.code) ∧ W.cell? ⟨w.heap.size + 2, 0, none⟩ = some (.int .i64 q.1) ∧ W.cell? ⟨w.heap.size + 2, 1, none⟩ = some (.int .i64 q.2)) := LH fun W h => by
      obtain ⟨⟨⟨a0, a1, a2, a3, a4, a5, a6, a7, a8, a9, a10, a11⟩, _, _⟩, hbx⟩ := h
      obtain ⟨r0, r1⟩ := hbx.cells
      exact ⟨a0, a1, a2, a3, a4, a5, a6, a7, a8, a9, a10, a11, r0, r1⟩
    obtain ⟨⟨⟨a0, a1, a2, a3, a4, a5, a6, a7, a8, a9, a10, a11⟩, ⟨p0, p1, p2⟩, _⟩, hbx⟩ := HH.out
    (try simp only at p0 p1 p2)
    obtain ⟨r0, r1⟩ := hbx.cells
    have hf1 := HF1.out
    have hf2 := HF2.out
    go_upto_region 5 with fail
    generalize ((w.alloc (.cells (snB s (.slice A1 s.rn.cs.length c1) (.slice A2 s.pe.length c2) (.slice A3 s.fl.length c3) (.slice A4 s.ac.length c4)) 29)).alloc (.cells #[.int .i64 po, .string pd, .bool true] 44)).alloc (.cells #[.int .i64 q.1, .int .i64 q.2] 59) = w2 at *
    have HD := LH (HH.out.next (Below.refl _ _).drew)
    have HS0 := LH (HSS.out _ HD.out)
    go_region_held3 (fun W => W.cell? ⟨w.heap.size, 0, none⟩ = some (.int .i64 s.st) ∧ W.cell? ⟨w.heap.size, 1, none⟩ = some (.int .i64 s.rn.size) ∧ W.cell? ⟨w.heap.size, 2, none⟩ = some (.int .i64 s.rn.base) ∧ W.cell? ⟨w.heap.size, 3, none⟩ = some (.int .i64 s.rn.en) ∧ W.cell? ⟨w.heap.size, 4, none⟩ = some (.slice A1 s.rn.cs.length c1) ∧ W.cell? ⟨w.heap.size, 5, none⟩ = some (.slice A2 s.pe.length c2) ∧ W.cell? ⟨w.heap.size, 6, none⟩ = some (.slice A3 s.fl.length c3) ∧ W.cell? ⟨w.heap.size, 7, none⟩ = some (.slice A4 s.ac.length c4) ∧ W.cell? ⟨w.heap.size, 8, none⟩ = some (.int .i64 s.fin) ∧ W.cell? ⟨w.heap.size, 9, none⟩ = some (.int .i64 s.fi) ∧ W.cell? ⟨w.heap.size, 10, none⟩ = some (.int .i64 s.sent) ∧ W.cell? ⟨w.heap.size, 11, none⟩ = some (.int .i64 s.code) ∧ W.cell? ⟨w.heap.size + 2, 0, none⟩ = some (.int .i64 q.1) ∧ W.cell? ⟨w.heap.size + 2, 1, none⟩ = some (.int .i64 q.2)) (first | with_reducible exact HS0.out | with_reducible exact HSA.out | with_reducible exact HSB.out) (first
      | (go_at_call 38; refine (HSO.out _).mono ?_; rintro e w3 ⟨rfl, hb⟩; have HD3 := LH (HD.out.next hb); have HSA := LH (HSS.out _ HD3.out); clear hb)
      | (go_at_call 100; refine (HHO.out w3 HD3.out.1.2.2).mono ?_; rintro e w4 ⟨rfl, hb⟩; have HD4 := LH (HD3.out.next hb); have HSB := LH (HSS.out _ HD4.out); clear hb))
    go_wp2
    go_ret
    exact ⟨rfl, HD4.out.1.2.2⟩
end Go.Proofs.YtdaoaedkjoknmaaGreat
