/-
  What spec.l4Quic, l1In, l9Range and l9Piece return.
-/
import Derived.Test.YtjohbfdifdjldacSnK
import Derived.Test.YtjohbfdifdjldacIn
import Derived.Test.YtjohbfdifdjldacSRng6
namespace Go.Proofs.Ytjohbfdifdjldac
open Go.RowKit Go.Deep Go.Proofs.Ytjohbfdifdjldac.Num

/-- spec.l1In -/
theorem sinS (x lo hi : Int) (w : World) :
    Calls Try.prog 47 #[.int .i64 x, .int .i64 lo, .int .i64 hi] w fun e w' => e = .returned (.bool (decide (lo ≤ x ∧ x ≤ hi))) ∧ Below w.heap.size w w' := by
  by_cases h : lo ≤ x ∧ x ≤ hi
  · rw [decide_eq_true h]
    exact (in_yes x lo hi w h.1 h.2).mono fun e w' ⟨h1, h2⟩ => ⟨h1, by rw [h2]; exact Below.refl _ _⟩
  · rw [decide_eq_false h]
    exact (in_no x lo hi w (by omega)).mono fun e w' ⟨h1, h2⟩ => ⟨h1, by rw [h2]; exact Below.refl _ _⟩
/-- spec.l4Quic -/
theorem squicS (n : Int) (w : World) :
    Calls Try.prog 57 #[.int .i64 n] w fun e w' => e = .returned (.bool (decide (0 ≤ n ∧ n ≤ 4611686018427387903))) ∧ Below w.heap.size w w' := by
  have H := Lib.hid fun W => sinS n 0 4611686018427387903 W
  generalize decide (0 ≤ n ∧ n ≤ 4611686018427387903) = b at *
  go_enter Try.func57, Try.ntmps57
  go_wp2_with fail
  refine (H.out _).mono ?_
  rintro e w1 ⟨rfl, hb1⟩
  have HB := Lib.hid hb1
  clear hb1
  go_wp2
  go_ret
  exact ⟨rfl, HB.out⟩
set_option maxRecDepth 100000 in
/-- spec.l9Range -/
theorem srangeS (p : Pc) (w : World) (h0 : 0 ≤ p.off) (h1 : p.off + (p.data.size : Int) ≤ 4611686018427387903) :
    Calls Try.prog 28 #[pcV p] w fun e w' => e = .returned (rgV (pcR p)) ∧ Below w.heap.size w w' := by
  have hq : wrap64 (p.off + (p.data.size : Int)) = p.off + (p.data.size : Int) := by unfold wrap64; omega
  have HB : Hid (Below w.heap.size w (w.alloc (.cells #[.int .i64 p.off, .string p.data, .bool p.fin] 38))) := Lib.hid ((Below.refl _ _).alloc (Nat.le_refl _) _)
  have hz : (w.alloc (.cells #[.int .i64 p.off, .string p.data, .bool p.fin] 38)).heap.size = w.heap.size + 1 := by simp
  have X0 := Box.new (w.alloc (.cells #[.int .i64 p.off, .string p.data, .bool p.fin] 38)) (0, 0)
  rw [hz] at X0
  have HX := Lib.hid X0
  have HB2 : Hid (Below w.heap.size w ((w.alloc (.cells #[.int .i64 p.off, .string p.data, .bool p.fin] 38)).alloc (.cells #[.int .i64 0, .int .i64 0] 56))) := Lib.hid (HB.out.alloc HB.out.size _)
  have c0 : ((w.alloc (.cells #[.int .i64 p.off, .string p.data, .bool p.fin] 38)).alloc (.cells #[.int .i64 0, .int .i64 0] 56)).cell? ⟨w.heap.size, 0, none⟩ = some (.int .i64 p.off) := by
    rw [World.cell?_of_block (heap_alloc_old _ _ (by rw [hz]; exact Nat.lt_succ_self _)), World.cell?_alloc_at _ _ _ _ rfl]; rfl
  have c1 : ((w.alloc (.cells #[.int .i64 p.off, .string p.data, .bool p.fin] 38)).alloc (.cells #[.int .i64 0, .int .i64 0] 56)).cell? ⟨w.heap.size, 1, none⟩ = some (.string p.data) := by
    rw [World.cell?_of_block (heap_alloc_old _ _ (by rw [hz]; exact Nat.lt_succ_self _)), World.cell?_alloc_at _ _ _ _ rfl]; rfl
  clear h0 h1 X0 hz HB
  go_enter Try.func28, Try.ntmps28
  go_upto_region 1 with fail
  generalize (w.alloc (.cells #[.int .i64 p.off, .string p.data, .bool p.fin] 38)).alloc (.cells #[.int .i64 0, .int .i64 0] 56) = w2 at *
  obtain ⟨q0, q1⟩ := (⟨cell_of_row w2 (w.heap.size + 1) 0 _ _ _ HX.out, cell_of_row w2 (w.heap.size + 1) 1 _ _ _ HX.out⟩ : _ ∧ _)
  have qf : ∀ k, w2.frozen? ⟨w.heap.size + 1, k, none⟩ = false := fun k => by
    have h := HX.out
    unfold Box at h
    simp [World.frozen?, h]
  go_wp2
  refine bodyPost_ret (results_cell_row rfl _ _ (w.heap.size + 1) _ _ _ _ rfl (Box.set1 (Box.set0 HX.out p.off) (p.off + (p.data.size : Int))) Try.underlying56 rfl (by kernel_rfl)) rfl ?_
  exact ⟨rfl, (HB2.out.setCell (p := ⟨_, _, _⟩) (by show w.heap.size ≤ w.heap.size + 1; omega) _).setCell (p := ⟨_, _, _⟩) (by show w.heap.size ≤ w.heap.size + 1; omega) _⟩

/-- A sender and a piece that came in, boxed. -/
def InSP (w : World) (s : Sn) (v1 v2 v3 v4 : Value) (p : Pc) (W : World) : Prop :=
  CellS W w.heap.size s v1 v2 v3 v4 ∧ (W.cell? ⟨w.heap.size + 1, 0, none⟩ = some (.int .i64 p.off) ∧ W.cell? ⟨w.heap.size + 1, 1, none⟩ = some (.string p.data) ∧ W.cell? ⟨w.heap.size + 1, 2, none⟩ = some (.bool p.fin)) ∧ Below w.heap.size w W
theorem InSP.start (w : World) (s : Sn) (v1 v2 v3 v4 : Value) (p : Pc) : InSP w s v1 v2 v3 v4 p ((w.alloc (.cells (snB s v1 v2 v3 v4) 35)).alloc (.cells #[.int .i64 p.off, .string p.data, .bool p.fin] 38)) := by
  have hz : (w.alloc (.cells (snB s v1 v2 v3 v4) 35)).heap.size = w.heap.size + 1 := by simp
  refine ⟨(RowS.new w s v1 v2 v3 v4).alloc _ |>.cells, ?_, ((Below.refl _ _).alloc (Nat.le_refl _) _).alloc (by rw [hz]; exact Nat.le_succ _) _⟩
  rw [← hz]
  refine ⟨?_, ?_, ?_⟩ <;> (rw [World.cell?_alloc_at _ _ _ _ rfl]; rfl)
set_option maxRecDepth 100000 in
set_option maxHeartbeats 2000000 in
/-- spec.l9Piece -/
theorem spieceS (s : Sn) (p : Pc) (v1 v2 v3 v4 : Value) (w : World) (hs : in64 s.rn.en) (hd : p.data.size ≤ 1000000000) :
    Calls Try.prog 26 #[snV s v1 v2 v3 v4, pcV p] w fun e w' => e = .returned (.bool (decide (inP s p))) ∧ Below w.heap.size w w' := by
  have X := Lib.hid (InSP.start w s v1 v2 v3 v4 p)
  unfold in64 at hs
  by_cases h0 : 0 ≤ p.off
  rotate_left
  · skip
    have HV : Hid (decide (inP s p) = false) := Lib.hid (decide_eq_false (fun k => h0 k.1))
    have d0 : decide (0 ≤ p.off) = false := decide_eq_false h0
    clear h0 hs hd
    go_enter Try.func26, Try.ntmps26
    obtain ⟨⟨a0, a1, a2, a3, a4, a5, a6, a7, a8, a9, a10, a11⟩, ⟨b0, b1, b2⟩, hbb⟩ := X.out
    have HBB := Lib.hid hbb
    clear hbb
    go_wp2
    go_ret
    exact ⟨by rw [HV.out] <;> rfl, HBB.out⟩
  have d0 : decide (0 ≤ p.off) = true := decide_eq_true h0
  by_cases h1 : p.off ≤ s.rn.en
  rotate_left
  · skip
    have HV : Hid (decide (inP s p) = false) := Lib.hid (decide_eq_false (fun k => h1 k.2.1))
    have d1 : decide (p.off ≤ s.rn.en) = false := decide_eq_false h1
    clear h0 h1 hs hd
    go_enter Try.func26, Try.ntmps26
    obtain ⟨⟨a0, a1, a2, a3, a4, a5, a6, a7, a8, a9, a10, a11⟩, ⟨b0, b1, b2⟩, hbb⟩ := X.out
    have HBB := Lib.hid hbb
    clear hbb
    go_wp2
    go_ret
    exact ⟨by rw [HV.out] <;> rfl, HBB.out⟩
  have d1 : decide (p.off ≤ s.rn.en) = true := decide_eq_true h1
  obtain ⟨q, hq⟩ : ∃ q, s.rn.en - p.off = q := ⟨_, rfl⟩
  have hw : wrap64 (s.rn.en - p.off) = q := by rw [← hq]; unfold wrap64; omega
  by_cases h2 : (p.data.size : Int) ≤ q
  rotate_left
  · skip
    have HV : Hid (decide (inP s p) = false) := Lib.hid (decide_eq_false (fun k => h2 (by have := k.2.2.1; omega)))
    have d2 : decide ((p.data.size : Int) ≤ q) = false := decide_eq_false h2
    clear h0 h1 h2 hq hs hd
    go_enter Try.func26, Try.ntmps26
    obtain ⟨⟨a0, a1, a2, a3, a4, a5, a6, a7, a8, a9, a10, a11⟩, ⟨b0, b1, b2⟩, hbb⟩ := X.out
    have HBB := Lib.hid hbb
    clear hbb
    go_wp2
    go_ret
    exact ⟨by rw [HV.out] <;> rfl, HBB.out⟩
  have d2 : decide ((p.data.size : Int) ≤ q) = true := decide_eq_true h2
  obtain ⟨t, ht⟩ : ∃ t, p.off + (p.data.size : Int) = t := ⟨_, rfl⟩
  have hw2 : wrap64 (p.off + (p.data.size : Int)) = t := by rw [← ht]; unfold wrap64; omega
  have h3 : (p.data.size : Int) ≤ s.rn.en - p.off := by omega
  obtain ⟨off, data, fin⟩ := p
  cases fin with
  | false =>
    have HV : Hid (decide (inP s ⟨off, data, false⟩) = true) := Lib.hid (decide_eq_true ⟨h0, h1, h3, fun e => by cases e⟩)
    dsimp only at *
    clear h0 h1 h2 h3 hq ht hs hd
    go_enter Try.func26, Try.ntmps26
    obtain ⟨⟨a0, a1, a2, a3, a4, a5, a6, a7, a8, a9, a10, a11⟩, ⟨b0, b1, b2⟩, hbb⟩ := X.out
    have HBB := Lib.hid hbb
    clear hbb
    go_wp2
    go_ret
    exact ⟨by rw [HV.out] <;> rfl, HBB.out⟩
  | true =>
    by_cases h4 : s.fin = -1
    · have HV : Hid (decide (inP s ⟨off, data, true⟩) = false) := Lib.hid (decide_eq_false (fun k => (k.2.2.2 rfl).1 h4))
      have d4 : (s.fin != -1) = false := by simpa using h4
      dsimp only at *
      clear h0 h1 h2 h3 h4 hq ht hs hd
      go_enter Try.func26, Try.ntmps26
      obtain ⟨⟨a0, a1, a2, a3, a4, a5, a6, a7, a8, a9, a10, a11⟩, ⟨b0, b1, b2⟩, hbb⟩ := X.out
      have HBB := Lib.hid hbb
      clear hbb
      go_wp2
      go_ret
      exact ⟨by rw [HV.out] <;> rfl, HBB.out⟩
    · have d4 : (s.fin != -1) = true := by simpa using h4
      have HV : Hid (decide (inP s ⟨off, data, true⟩) = (t == s.fin)) := Lib.hid (by
        rw [show (t == s.fin) = decide (t = s.fin) from rfl]
        exact decide_eq_decide.2 ⟨fun k => by have : off + (data.size : Int) = s.fin := (k.2.2.2 rfl).2; have h9 : off + (data.size : Int) = t := ht; omega, fun k => ⟨h0, h1, h3, fun _ => ⟨h4, by have h9 : off + (data.size : Int) = t := ht; show off + (data.size : Int) = s.fin; omega⟩⟩⟩)
      dsimp only at *
      clear h0 h1 h2 h3 h4 hq ht hs hd
      go_enter Try.func26, Try.ntmps26
      obtain ⟨⟨a0, a1, a2, a3, a4, a5, a6, a7, a8, a9, a10, a11⟩, ⟨b0, b1, b2⟩, hbb⟩ := X.out
      have HBB := Lib.hid hbb
      clear hbb
      go_wp2
      go_ret
      exact ⟨by rw [HV.out] <;> rfl, HBB.out⟩
end Go.Proofs.Ytjohbfdifdjldac
