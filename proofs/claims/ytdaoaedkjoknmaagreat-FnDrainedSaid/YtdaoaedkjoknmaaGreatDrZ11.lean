/-
  Contracts and lemmas for the law on draining.
-/
import Derived.Test.YtdaoaedkjoknmaaGreatDrZ0
import Derived.Test.YtdaoaedkjoknmaaGreatDrZ2
import Derived.Test.YtdaoaedkjoknmaaGreatDrZ5
import Derived.Test.YtdaoaedkjoknmaaGreatDrZ1
import Derived.Deep.RegionHeld
set_option maxRecDepth 1000000
set_option maxHeartbeats 8000000
namespace Go.Proofs.YtdaoaedkjoknmaaGreat
open Go.RowKit Go.Deep Go.Proofs.YtdaoaedkjoknmaaGreat.Num

theorem full_iff {r : Rc} (h : okB r.buf) : fullRc r ↔ r.buf.next + (rdyB r.buf : Int) = r.fin := ⟨fun h => h.2, fun h2 => ⟨by have := h.2.1; omega, h2⟩⟩
theorem iexc (r : Rc) (n : Int) (A : Option Addr) (cap B : Nat) (w : World) (hB : B ≤ w.heap.size) (hr : Chs w B A r.buf.chs) :
    Calls Tryz.prog 49 #[rcV r (.slice A r.buf.chs.length cap), .int .i64 n] w fun e w' => e = .returned (.bool (decide (r.fin ≠ -1 ∧ r.fin < n))) ∧ Below w.heap.size w w' := by
  have HH := LH (InRc.start w r A cap 40 (hr.up hB))
  clear hr
  by_cases h1 : r.fin = -1
  · have d1 : (r.fin != -1) = false := by simpa using h1
    rw [decide_eq_false (show ¬ (r.fin ≠ -1 ∧ r.fin < n) from fun h => h.1 h1)]
    clear h1
    go_enter Tryz.func49, Tryz.ntmps49
    obtain ⟨a0, a1, a2, a3, a4, a5⟩ := HH.out.1
    go_wp2
    go_ret
    exact ⟨rfl, HH.out.2.2.2⟩
  have d1 : (r.fin != -1) = true := by simpa using h1
  have HV : Hid (decide (r.fin ≠ -1 ∧ r.fin < n) = decide (r.fin < n)) := LH (decide_eq_decide.2 ⟨fun h => h.2, fun h => ⟨h1, h⟩⟩)
  clear h1
  go_enter Tryz.func49, Tryz.ntmps49
  obtain ⟨a0, a1, a2, a3, a4, a5⟩ := HH.out.1
  go_wp2
  go_ret
  exact ⟨by rw [HV.out]; rfl, HH.out.2.2.2⟩
theorem icon (r : Rc) (n : Int) (A : Option Addr) (cap B : Nat) (w : World) (hB : B ≤ w.heap.size) (hr : Chs w B A r.buf.chs) :
    Calls Tryz.prog 50 #[rcV r (.slice A r.buf.chs.length cap), .int .i64 n] w fun e w' => e = .returned (.bool (decide (n < r.hi ∨ (r.fin ≠ -1 ∧ n ≠ r.fin)))) ∧ Below w.heap.size w w' := by
  have HH := LH (InRc.start w r A cap 40 (hr.up hB))
  clear hr
  by_cases h0 : n < r.hi
  · have d0 : decide (n < r.hi) = true := decide_eq_true h0
    rw [decide_eq_true (show n < r.hi ∨ (r.fin ≠ -1 ∧ n ≠ r.fin) from .inl h0)]
    clear h0
    go_enter Tryz.func50, Tryz.ntmps50
    obtain ⟨a0, a1, a2, a3, a4, a5⟩ := HH.out.1
    go_wp2
    go_ret
    exact ⟨rfl, HH.out.2.2.2⟩
  have d0 : decide (n < r.hi) = false := decide_eq_false h0
  by_cases h1 : r.fin = -1
  · have d1 : (r.fin != -1) = false := by simpa using h1
    rw [decide_eq_false (show ¬ (n < r.hi ∨ (r.fin ≠ -1 ∧ n ≠ r.fin)) from fun h => h.elim h0 (fun h => h.1 h1))]
    clear h0 h1
    go_enter Tryz.func50, Tryz.ntmps50
    obtain ⟨a0, a1, a2, a3, a4, a5⟩ := HH.out.1
    go_wp2
    go_ret
    exact ⟨rfl, HH.out.2.2.2⟩
  have d1 : (r.fin != -1) = true := by simpa using h1
  have HV : Hid (decide (n < r.hi ∨ (r.fin ≠ -1 ∧ n ≠ r.fin)) = (n != r.fin)) := LH (by
    by_cases h2 : n = r.fin
    · rw [decide_eq_false (fun h => h.elim h0 (fun h => h.2 h2))]; simp [h2]
    · rw [decide_eq_true (.inr ⟨h1, h2⟩)]; simp [h2])
  clear h0 h1
  go_enter Tryz.func50, Tryz.ntmps50
  obtain ⟨a0, a1, a2, a3, a4, a5⟩ := HH.out.1
  go_wp2
  go_ret
  exact ⟨by rw [HV.out]; rfl, HH.out.2.2.2⟩
theorem rdy_max {b : Bf} (h : okB b) : b.next + (rdyB b : Int) ≤ 4611686018427387903 := by
  by_cases h0 : rdyB b = 0
  · have := h.2.2; omega
  · obtain ⟨_, c, l, hl, hn, hs⟩ := rdyB_pos h0
    have h1 := okR.below h.1 (ckR c) (List.mem_map_of_mem (by rw [hl]; exact List.mem_cons_self ..))
    have h2 : c.off + (c.data.size : Int) ≤ 4611686018427387903 := h1.2.2
    omega
theorem iall (r : Rc) (A : Option Addr) (cap B : Nat) (w : World) (hB : B ≤ w.heap.size) (hr : Chs w B A r.buf.chs) (hn : r.buf.chs.length ≤ 1000000000) (hi : inB r.buf.chs) (hx : inRc r) (hok : okB r.buf) :
    Calls Tryz.prog 53 #[rcV r (.slice A r.buf.chs.length cap)] w fun e w' => e = .returned (.bool (decide (fullRc r))) ∧ Below w.heap.size w w' := by
  have HH := LH (InRc.start w r A cap 40 (hr.up hB))
  have HRD : Hid (∀ W, InRc w w.heap.size r A cap W → Calls Tryz.prog 110 #[bfV r.buf.next (.slice A r.buf.chs.length cap)] W fun e w' => e = .returned (.int .i64 (rdyB r.buf : Nat)) ∧ Below W.heap.size W w') := LH fun W h => iready r.buf A cap (w.heap.size) W (Nat.le_of_lt h.2.2.1) h.2.1 hn hi hx.2.1
  have hw : IntKind.i64.wrap (r.buf.next + (rdyB r.buf : Int)) = r.buf.next + (rdyB r.buf : Int) := by
    have h2 := rdy_max hok
    have := hok.2.1
    clear hx
    rw [IntKind.wrap_i64]; omega
  have HV : Hid (decide (fullRc r) = (r.buf.next + (rdyB r.buf : Int) == r.fin)) := LH (decide_eq_decide.2 (full_iff hok))
  clear hr hi hx hn hok
  have HH := LH (HH.out.drew)
  go_enter Tryz.func53, Tryz.ntmps53
  go_wp2
  refine wp_region_held_drew (S := (InRc w w.heap.size r A cap)) (by kernel_rfl) HH.out (fun hHeld => ?_)
  refine tK 0 (v := ?_) rfl hHeld ?_ ?_
  rotate_left
  · (intro wx hSx; obtain ⟨⟨a0, a1, a2, a3, a4, a5⟩, _⟩ : (_ ∧ _) ∧ True := ⟨hSx.1, trivial⟩; go_simp; (try with_reducible rfl))
  (try simp only [Act.put, zA, zC, zD, zE, zF])
  refine tK 1 (v := ?_) rfl hHeld ?_ ?_
  rotate_left
  · (intro wx hSx; obtain ⟨⟨a0, a1, a2, a3, a4, a5⟩, _⟩ : (_ ∧ _) ∧ True := ⟨hSx.1, trivial⟩; go_simp; (try with_reducible rfl))
  (try simp only [Act.put, zA, zB, zC, zD, zE, zF])
  refine tK 2 (v := ?_) rfl hHeld ?_ ?_
  rotate_left
  · (intro wx hSx; obtain ⟨⟨a0, a1, a2, a3, a4, a5⟩, _⟩ : (_ ∧ _) ∧ True := ⟨hSx.1, trivial⟩; go_simp; (try with_reducible rfl))
  (try simp only [Act.put, zA, zB, zC, zD, zE, zF])
  refine tK 3 (v := ?_) rfl hHeld ?_ ?_
  rotate_left
  · (intro wx hSx; obtain ⟨⟨a0, a1, a2, a3, a4, a5⟩, _⟩ : (_ ∧ _) ∧ True := ⟨hSx.1, trivial⟩; go_simp; (try with_reducible rfl))
  (try simp only [Act.put, zA, zB, zC, zD, zE, zF])
  refine tK 4 (v := ?_) rfl hHeld ?_ ?_
  rotate_left
  · (intro wx hSx; obtain ⟨⟨a0, a1, a2, a3, a4, a5⟩, _⟩ : (_ ∧ _) ∧ True := ⟨hSx.1, trivial⟩; go_simp; (try with_reducible rfl))
  (try simp only [Act.put, zA, zB, zC, zD, zE, zF])
  refine tK 7 (v := ?_) rfl hHeld ?_ ?_
  rotate_left
  · (intro wx hSx; obtain ⟨⟨a0, a1, a2, a3, a4, a5⟩, _⟩ : (_ ∧ _) ∧ True := ⟨hSx.1, trivial⟩; go_simp; (try with_reducible rfl))
  (try simp only [Act.put, zA, zB, zC, zD, zE, zF])
  refine tK 8 (v := ?_) rfl hHeld ?_ ?_
  rotate_left
  · (intro wx hSx; obtain ⟨⟨a0, a1, a2, a3, a4, a5⟩, _⟩ : (_ ∧ _) ∧ True := ⟨hSx.1, trivial⟩; go_simp; (try with_reducible rfl))
  (try simp only [Act.put, zA, zB, zC, zD, zE, zF])
  refine wpAnyH_ready (rs := [5]) (by kernel_rfl) (by simp) ?_
  refine AllReadyH.cons rfl (fun K hK => ?_) AllReadyH.nil
  rw [if_pos (by rfl)]
  go_simp
  refine (HRD.out _ HH.out).mono ?_
  rintro e w1 ⟨rfl, hb1⟩
  have HH := LH (HH.out.next hb1)
  (try simp only [])
  refine hK.out _ _ HH.out (fun hHeld => ?_)
  clear hb1
  clear hK K
  (try simp only [Act.put, zA, zB, zC, zD, zE, zF])
  refine tK 6 (v := ?_) rfl hHeld ?_ ?_
  rotate_left
  · (intro wx hSx; obtain ⟨⟨a0, a1, a2, a3, a4, a5⟩, _⟩ : (_ ∧ _) ∧ True := ⟨hSx.1, trivial⟩; go_simp; (try with_reducible rfl))
  (try simp only [Act.put, zA, zB, zC, zD, zE, zF])
  refine tK 9 (v := ?_) rfl hHeld ?_ ?_
  rotate_left
  · (intro wx hSx; obtain ⟨⟨a0, a1, a2, a3, a4, a5⟩, _⟩ : (_ ∧ _) ∧ True := ⟨hSx.1, trivial⟩; go_simp; (try with_reducible rfl))
  (try simp only [Act.put, zA, zB, zC, zD, zE, zF])
  refine tK 10 (v := ?_) rfl hHeld ?_ ?_
  rotate_left
  · (intro wx hSx; obtain ⟨⟨a0, a1, a2, a3, a4, a5⟩, _⟩ : (_ ∧ _) ∧ True := ⟨hSx.1, trivial⟩; go_simp; (try with_reducible rfl))
  (try simp only [Act.put, zA, zB, zC, zD, zE, zF])
  refine wpAnyH_done (by kernel_rfl) ?_ _
  clear hHeld
  go_wp2
  go_ret
  exact ⟨by rw [HV.out]; rfl, HH.out.2.2.2⟩
def plcRc (r : Rc) : Prop := okB r.buf ∧ endB r.buf ≤ r.hi ∧ r.hi ≤ 4611686018427387903 ∧ (r.fin = -1 ∨ (r.hi ≤ r.fin ∧ r.fin ≤ 4611686018427387903))
instance (r : Rc) : Decidable (plcRc r) := by unfold plcRc; infer_instance
theorem iplc (r : Rc) (A : Option Addr) (cap B : Nat) (w : World) (hB : B ≤ w.heap.size) (hr : Chs w B A r.buf.chs) (hn : r.buf.chs.length ≤ 1000000000) (hi : inB r.buf.chs) (hx : inRc r) :
    Calls Tryz.prog 105 #[rcV r (.slice A r.buf.chs.length cap)] w fun e w' => e = .returned (.bool (decide (plcRc r))) ∧ Below w.heap.size w w' := by
  have HH := LH (InRc.start w r A cap 40 (hr.up hB))
  have HISB : Hid (∀ W, InRc w w.heap.size r A cap W → Calls Tryz.prog 107 #[bfV r.buf.next (.slice A r.buf.chs.length cap)] W fun e w' => e = .returned (.bool (decide (okB r.buf))) ∧ Below W.heap.size W w') := LH fun W h => iisb r.buf A cap (w.heap.size) W (Nat.le_of_lt h.2.2.1) h.2.1 hn hi hx.2.1
  have HEND : Hid (∀ W, InRc w w.heap.size r A cap W → Calls Tryz.prog 133 #[bfV r.buf.next (.slice A r.buf.chs.length cap)] W fun e w' => e = .returned (.int .i64 (endB r.buf)) ∧ Below W.heap.size W w') := LH fun W h => iendof r.buf A cap (w.heap.size) W (Nat.le_of_lt h.2.2.1) h.2.1 hn hi hx.2.1
  clear hr hi hx hn
  have HH := LH (HH.out.drew)
  by_cases h0 : okB r.buf
  rotate_left
  · rw [decide_eq_false h0] at HISB
    have HV : Hid (decide (plcRc r) = false) := LH (decide_eq_false (fun h => h0 h.1))
    clear h0
    go_enter Tryz.func105, Tryz.ntmps105
    go_wp2
    refine wp_region_held_drew (S := (InRc w w.heap.size r A cap)) (by kernel_rfl) HH.out (fun hHeld => ?_)
    refine tK 0 (v := ?_) rfl hHeld ?_ ?_
    rotate_left
    · (intro wx hSx; obtain ⟨⟨a0, a1, a2, a3, a4, a5⟩, _⟩ : (_ ∧ _) ∧ True := ⟨hSx.1, trivial⟩; go_simp; (try with_reducible rfl))
    (try simp only [Act.put, zA, zC, zD, zE, zF])
    refine tK 1 (v := ?_) rfl hHeld ?_ ?_
    rotate_left
    · (intro wx hSx; obtain ⟨⟨a0, a1, a2, a3, a4, a5⟩, _⟩ : (_ ∧ _) ∧ True := ⟨hSx.1, trivial⟩; go_simp; (try with_reducible rfl))
    (try simp only [Act.put, zA, zB, zC, zD, zE, zF])
    refine wpAnyH_ready (rs := [2]) (by kernel_rfl) (by simp) ?_
    refine AllReadyH.cons rfl (fun K hK => ?_) AllReadyH.nil
    rw [if_pos (by rfl)]
    go_simp
    refine (HISB.out _ HH.out).mono ?_
    rintro e w1 ⟨rfl, hb1⟩
    have HH := LH (HH.out.next hb1)
    (try simp only [])
    refine hK.out _ _ HH.out (fun hHeld => ?_)
    clear hb1
    clear hK K
    (try simp only [Act.put, zA, zB, zC, zD, zE, zF])
    refine tK 3 (v := ?_) rfl hHeld ?_ ?_
    rotate_left
    · (intro wx hSx; obtain ⟨⟨a0, a1, a2, a3, a4, a5⟩, _⟩ : (_ ∧ _) ∧ True := ⟨hSx.1, trivial⟩; go_simp; (try with_reducible rfl))
    (try simp only [Act.put, zA, zB, zC, zD, zE, zF])
    refine tK 4 (v := ?_) rfl hHeld ?_ ?_
    rotate_left
    · (intro wx hSx; obtain ⟨⟨a0, a1, a2, a3, a4, a5⟩, _⟩ : (_ ∧ _) ∧ True := ⟨hSx.1, trivial⟩; go_simp; (try with_reducible rfl))
    (try simp only [Act.put, zA, zB, zC, zD, zE, zF])
    refine tN 5 rfl hHeld ?_
    (try simp only [Act.put, zA, zB, zC, zD, zE, zF])
    refine tN 6 rfl hHeld ?_
    (try simp only [Act.put, zA, zB, zC, zD, zE, zF])
    refine tN 7 rfl hHeld ?_
    (try simp only [Act.put, zA, zB, zC, zD, zE, zF])
    refine tN 8 rfl hHeld ?_
    (try simp only [Act.put, zA, zB, zC, zD, zE, zF])
    refine tN 9 rfl hHeld ?_
    (try simp only [Act.put, zA, zB, zC, zD, zE, zF])
    refine tN 10 rfl hHeld ?_
    (try simp only [Act.put, zA, zB, zC, zD, zE, zF])
    refine tK 11 (v := ?_) rfl hHeld ?_ ?_
    rotate_left
    · (intro wx hSx; obtain ⟨⟨a0, a1, a2, a3, a4, a5⟩, _⟩ : (_ ∧ _) ∧ True := ⟨hSx.1, trivial⟩; go_simp; (try with_reducible rfl))
    (try simp only [Act.put, zA, zB, zC, zD, zE, zF])
    refine tK 12 (v := ?_) rfl hHeld ?_ ?_
    rotate_left
    · (intro wx hSx; obtain ⟨⟨a0, a1, a2, a3, a4, a5⟩, _⟩ : (_ ∧ _) ∧ True := ⟨hSx.1, trivial⟩; go_simp; (try with_reducible rfl))
    (try simp only [Act.put, zA, zB, zC, zD, zE, zF])
    refine tN 13 rfl hHeld ?_
    (try simp only [Act.put, zA, zB, zC, zD, zE, zF])
    refine tN 14 rfl hHeld ?_
    (try simp only [Act.put, zA, zB, zC, zD, zE, zF])
    refine tN 15 rfl hHeld ?_
    (try simp only [Act.put, zA, zB, zC, zD, zE, zF])
    refine tK 16 (v := ?_) rfl hHeld ?_ ?_
    rotate_left
    · (intro wx hSx; obtain ⟨⟨a0, a1, a2, a3, a4, a5⟩, _⟩ : (_ ∧ _) ∧ True := ⟨hSx.1, trivial⟩; go_simp; (try with_reducible rfl))
    (try simp only [Act.put, zA, zB, zC, zD, zE, zF])
    refine wpAnyH_done (by kernel_rfl) ?_ _
    clear hHeld
    obtain ⟨a0, a1, a2, a3, a4, a5⟩ := HH.out.1
    go_wp2
    go_ret
    exact ⟨by rw [HV.out]; rfl, HH.out.2.2.2⟩
  rw [decide_eq_true h0] at HISB
  by_cases h1 : r.hi < endB r.buf
  · have d1 : decide (r.hi < endB r.buf) = true := decide_eq_true h1
    have HV : Hid (decide (plcRc r) = false) := LH (decide_eq_false (fun h => by have := h.2.1; omega))
    clear h0 h1
    go_enter Tryz.func105, Tryz.ntmps105
    go_wp2
    refine wp_region_held_drew (S := (InRc w w.heap.size r A cap)) (by kernel_rfl) HH.out (fun hHeld => ?_)
    refine tK 0 (v := ?_) rfl hHeld ?_ ?_
    rotate_left
    · (intro wx hSx; obtain ⟨⟨a0, a1, a2, a3, a4, a5⟩, _⟩ : (_ ∧ _) ∧ True := ⟨hSx.1, trivial⟩; go_simp; (try with_reducible rfl))
    (try simp only [Act.put, zA, zC, zD, zE, zF])
    refine tK 1 (v := ?_) rfl hHeld ?_ ?_
    rotate_left
    · (intro wx hSx; obtain ⟨⟨a0, a1, a2, a3, a4, a5⟩, _⟩ : (_ ∧ _) ∧ True := ⟨hSx.1, trivial⟩; go_simp; (try with_reducible rfl))
    (try simp only [Act.put, zA, zB, zC, zD, zE, zF])
    refine wpAnyH_ready (rs := [2]) (by kernel_rfl) (by simp) ?_
    refine AllReadyH.cons rfl (fun K hK => ?_) AllReadyH.nil
    rw [if_pos (by rfl)]
    go_simp
    refine (HISB.out _ HH.out).mono ?_
    rintro e w1 ⟨rfl, hb1⟩
    have HH := LH (HH.out.next hb1)
    (try simp only [])
    refine hK.out _ _ HH.out (fun hHeld => ?_)
    clear hb1
    clear hK K
    (try simp only [Act.put, zA, zB, zC, zD, zE, zF])
    refine tK 3 (v := ?_) rfl hHeld ?_ ?_
    rotate_left
    · (intro wx hSx; obtain ⟨⟨a0, a1, a2, a3, a4, a5⟩, _⟩ : (_ ∧ _) ∧ True := ⟨hSx.1, trivial⟩; go_simp; (try with_reducible rfl))
    (try simp only [Act.put, zA, zB, zC, zD, zE, zF])
    refine tK 4 (v := ?_) rfl hHeld ?_ ?_
    rotate_left
    · (intro wx hSx; obtain ⟨⟨a0, a1, a2, a3, a4, a5⟩, _⟩ : (_ ∧ _) ∧ True := ⟨hSx.1, trivial⟩; go_simp; (try with_reducible rfl))
    (try simp only [Act.put, zA, zB, zC, zD, zE, zF])
    refine tK 5 (v := ?_) rfl hHeld ?_ ?_
    rotate_left
    · (intro wx hSx; obtain ⟨⟨a0, a1, a2, a3, a4, a5⟩, _⟩ : (_ ∧ _) ∧ True := ⟨hSx.1, trivial⟩; go_simp; (try with_reducible rfl))
    (try simp only [Act.put, zA, zB, zC, zD, zE, zF])
    refine tK 6 (v := ?_) rfl hHeld ?_ ?_
    rotate_left
    · (intro wx hSx; obtain ⟨⟨a0, a1, a2, a3, a4, a5⟩, _⟩ : (_ ∧ _) ∧ True := ⟨hSx.1, trivial⟩; go_simp; (try with_reducible rfl))
    (try simp only [Act.put, zA, zB, zC, zD, zE, zF])
    refine tK 8 (v := ?_) rfl hHeld ?_ ?_
    rotate_left
    · (intro wx hSx; obtain ⟨⟨a0, a1, a2, a3, a4, a5⟩, _⟩ : (_ ∧ _) ∧ True := ⟨hSx.1, trivial⟩; go_simp; (try with_reducible rfl))
    (try simp only [Act.put, zA, zB, zC, zD, zE, zF])
    refine tK 9 (v := ?_) rfl hHeld ?_ ?_
    rotate_left
    · (intro wx hSx; obtain ⟨⟨a0, a1, a2, a3, a4, a5⟩, _⟩ : (_ ∧ _) ∧ True := ⟨hSx.1, trivial⟩; go_simp; (try with_reducible rfl))
    (try simp only [Act.put, zA, zB, zC, zD, zE, zF])
    refine wpAnyH_ready (rs := [7]) (by kernel_rfl) (by simp) ?_
    refine AllReadyH.cons rfl (fun K hK => ?_) AllReadyH.nil
    rw [if_pos (by rfl)]
    go_simp
    refine (HEND.out _ HH.out).mono ?_
    rintro e w1 ⟨rfl, hb1⟩
    have HH := LH (HH.out.next hb1)
    (try simp only [])
    refine hK.out _ _ HH.out (fun hHeld => ?_)
    clear hb1
    clear hK K
    (try simp only [Act.put, zA, zB, zC, zD, zE, zF])
    refine tK 10 (v := ?_) rfl hHeld ?_ ?_
    rotate_left
    · (intro wx hSx; obtain ⟨⟨a0, a1, a2, a3, a4, a5⟩, _⟩ : (_ ∧ _) ∧ True := ⟨hSx.1, trivial⟩; go_simp; (try with_reducible rfl))
    (try simp only [Act.put, zA, zB, zC, zD, zE, zF])
    refine tK 11 (v := ?_) rfl hHeld ?_ ?_
    rotate_left
    · (intro wx hSx; obtain ⟨⟨a0, a1, a2, a3, a4, a5⟩, _⟩ : (_ ∧ _) ∧ True := ⟨hSx.1, trivial⟩; go_simp; (try with_reducible rfl))
    (try simp only [Act.put, zA, zB, zC, zD, zE, zF])
    refine tK 12 (v := ?_) rfl hHeld ?_ ?_
    rotate_left
    · (intro wx hSx; obtain ⟨⟨a0, a1, a2, a3, a4, a5⟩, _⟩ : (_ ∧ _) ∧ True := ⟨hSx.1, trivial⟩; go_simp; (try with_reducible rfl))
    (try simp only [Act.put, zA, zB, zC, zD, zE, zF])
    refine tN 13 rfl hHeld ?_
    (try simp only [Act.put, zA, zB, zC, zD, zE, zF])
    refine tN 14 rfl hHeld ?_
    (try simp only [Act.put, zA, zB, zC, zD, zE, zF])
    refine tN 15 rfl hHeld ?_
    (try simp only [Act.put, zA, zB, zC, zD, zE, zF])
    refine tK 16 (v := ?_) rfl hHeld ?_ ?_
    rotate_left
    · (intro wx hSx; obtain ⟨⟨a0, a1, a2, a3, a4, a5⟩, _⟩ : (_ ∧ _) ∧ True := ⟨hSx.1, trivial⟩; go_simp; (try with_reducible rfl))
    (try simp only [Act.put, zA, zB, zC, zD, zE, zF])
    refine wpAnyH_done (by kernel_rfl) ?_ _
    clear hHeld
    obtain ⟨a0, a1, a2, a3, a4, a5⟩ := HH.out.1
    go_wp2
    go_ret
    exact ⟨by rw [HV.out]; rfl, HH.out.2.2.2⟩
  have d1 : decide (r.hi < endB r.buf) = false := decide_eq_false h1
  by_cases h2 : 4611686018427387903 < r.hi
  · have d2 : decide (4611686018427387903 < r.hi) = true := decide_eq_true h2
    have HV : Hid (decide (plcRc r) = false) := LH (decide_eq_false (fun h => by have := h.2.2.1; omega))
    clear h0 h1 h2
    go_enter Tryz.func105, Tryz.ntmps105
    go_wp2
    refine wp_region_held_drew (S := (InRc w w.heap.size r A cap)) (by kernel_rfl) HH.out (fun hHeld => ?_)
    refine tK 0 (v := ?_) rfl hHeld ?_ ?_
    rotate_left
    · (intro wx hSx; obtain ⟨⟨a0, a1, a2, a3, a4, a5⟩, _⟩ : (_ ∧ _) ∧ True := ⟨hSx.1, trivial⟩; go_simp; (try with_reducible rfl))
    (try simp only [Act.put, zA, zC, zD, zE, zF])
    refine tK 1 (v := ?_) rfl hHeld ?_ ?_
    rotate_left
    · (intro wx hSx; obtain ⟨⟨a0, a1, a2, a3, a4, a5⟩, _⟩ : (_ ∧ _) ∧ True := ⟨hSx.1, trivial⟩; go_simp; (try with_reducible rfl))
    (try simp only [Act.put, zA, zB, zC, zD, zE, zF])
    refine wpAnyH_ready (rs := [2]) (by kernel_rfl) (by simp) ?_
    refine AllReadyH.cons rfl (fun K hK => ?_) AllReadyH.nil
    rw [if_pos (by rfl)]
    go_simp
    refine (HISB.out _ HH.out).mono ?_
    rintro e w1 ⟨rfl, hb1⟩
    have HH := LH (HH.out.next hb1)
    (try simp only [])
    refine hK.out _ _ HH.out (fun hHeld => ?_)
    clear hb1
    clear hK K
    (try simp only [Act.put, zA, zB, zC, zD, zE, zF])
    refine tK 3 (v := ?_) rfl hHeld ?_ ?_
    rotate_left
    · (intro wx hSx; obtain ⟨⟨a0, a1, a2, a3, a4, a5⟩, _⟩ : (_ ∧ _) ∧ True := ⟨hSx.1, trivial⟩; go_simp; (try with_reducible rfl))
    (try simp only [Act.put, zA, zB, zC, zD, zE, zF])
    refine tK 4 (v := ?_) rfl hHeld ?_ ?_
    rotate_left
    · (intro wx hSx; obtain ⟨⟨a0, a1, a2, a3, a4, a5⟩, _⟩ : (_ ∧ _) ∧ True := ⟨hSx.1, trivial⟩; go_simp; (try with_reducible rfl))
    (try simp only [Act.put, zA, zB, zC, zD, zE, zF])
    refine tK 5 (v := ?_) rfl hHeld ?_ ?_
    rotate_left
    · (intro wx hSx; obtain ⟨⟨a0, a1, a2, a3, a4, a5⟩, _⟩ : (_ ∧ _) ∧ True := ⟨hSx.1, trivial⟩; go_simp; (try with_reducible rfl))
    (try simp only [Act.put, zA, zB, zC, zD, zE, zF])
    refine tK 6 (v := ?_) rfl hHeld ?_ ?_
    rotate_left
    · (intro wx hSx; obtain ⟨⟨a0, a1, a2, a3, a4, a5⟩, _⟩ : (_ ∧ _) ∧ True := ⟨hSx.1, trivial⟩; go_simp; (try with_reducible rfl))
    (try simp only [Act.put, zA, zB, zC, zD, zE, zF])
    refine tK 8 (v := ?_) rfl hHeld ?_ ?_
    rotate_left
    · (intro wx hSx; obtain ⟨⟨a0, a1, a2, a3, a4, a5⟩, _⟩ : (_ ∧ _) ∧ True := ⟨hSx.1, trivial⟩; go_simp; (try with_reducible rfl))
    (try simp only [Act.put, zA, zB, zC, zD, zE, zF])
    refine tK 9 (v := ?_) rfl hHeld ?_ ?_
    rotate_left
    · (intro wx hSx; obtain ⟨⟨a0, a1, a2, a3, a4, a5⟩, _⟩ : (_ ∧ _) ∧ True := ⟨hSx.1, trivial⟩; go_simp; (try with_reducible rfl))
    (try simp only [Act.put, zA, zB, zC, zD, zE, zF])
    refine wpAnyH_ready (rs := [7]) (by kernel_rfl) (by simp) ?_
    refine AllReadyH.cons rfl (fun K hK => ?_) AllReadyH.nil
    rw [if_pos (by rfl)]
    go_simp
    refine (HEND.out _ HH.out).mono ?_
    rintro e w1 ⟨rfl, hb1⟩
    have HH := LH (HH.out.next hb1)
    (try simp only [])
    refine hK.out _ _ HH.out (fun hHeld => ?_)
    clear hb1
    clear hK K
    (try simp only [Act.put, zA, zB, zC, zD, zE, zF])
    refine tK 10 (v := ?_) rfl hHeld ?_ ?_
    rotate_left
    · (intro wx hSx; obtain ⟨⟨a0, a1, a2, a3, a4, a5⟩, _⟩ : (_ ∧ _) ∧ True := ⟨hSx.1, trivial⟩; go_simp; (try with_reducible rfl))
    (try simp only [Act.put, zA, zB, zC, zD, zE, zF])
    refine tK 11 (v := ?_) rfl hHeld ?_ ?_
    rotate_left
    · (intro wx hSx; obtain ⟨⟨a0, a1, a2, a3, a4, a5⟩, _⟩ : (_ ∧ _) ∧ True := ⟨hSx.1, trivial⟩; go_simp; (try with_reducible rfl))
    (try simp only [Act.put, zA, zB, zC, zD, zE, zF])
    refine tK 12 (v := ?_) rfl hHeld ?_ ?_
    rotate_left
    · (intro wx hSx; obtain ⟨⟨a0, a1, a2, a3, a4, a5⟩, _⟩ : (_ ∧ _) ∧ True := ⟨hSx.1, trivial⟩; go_simp; (try with_reducible rfl))
    (try simp only [Act.put, zA, zB, zC, zD, zE, zF])
    refine tK 13 (v := ?_) rfl hHeld ?_ ?_
    rotate_left
    · (intro wx hSx; obtain ⟨⟨a0, a1, a2, a3, a4, a5⟩, _⟩ : (_ ∧ _) ∧ True := ⟨hSx.1, trivial⟩; go_simp; (try with_reducible rfl))
    (try simp only [Act.put, zA, zB, zC, zD, zE, zF])
    refine tK 14 (v := ?_) rfl hHeld ?_ ?_
    rotate_left
    · (intro wx hSx; obtain ⟨⟨a0, a1, a2, a3, a4, a5⟩, _⟩ : (_ ∧ _) ∧ True := ⟨hSx.1, trivial⟩; go_simp; (try with_reducible rfl))
    (try simp only [Act.put, zA, zB, zC, zD, zE, zF])
    refine tK 15 (v := ?_) rfl hHeld ?_ ?_
    rotate_left
    · (intro wx hSx; obtain ⟨⟨a0, a1, a2, a3, a4, a5⟩, _⟩ : (_ ∧ _) ∧ True := ⟨hSx.1, trivial⟩; go_simp; (try with_reducible rfl))
    (try simp only [Act.put, zA, zB, zC, zD, zE, zF])
    refine tK 16 (v := ?_) rfl hHeld ?_ ?_
    rotate_left
    · (intro wx hSx; obtain ⟨⟨a0, a1, a2, a3, a4, a5⟩, _⟩ : (_ ∧ _) ∧ True := ⟨hSx.1, trivial⟩; go_simp; (try with_reducible rfl))
    (try simp only [Act.put, zA, zB, zC, zD, zE, zF])
    refine wpAnyH_done (by kernel_rfl) ?_ _
    clear hHeld
    obtain ⟨a0, a1, a2, a3, a4, a5⟩ := HH.out.1
    go_wp2
    go_ret
    exact ⟨by rw [HV.out]; rfl, HH.out.2.2.2⟩
  have d2 : decide (4611686018427387903 < r.hi) = false := decide_eq_false h2
  have HP : Hid (plcRc r ↔ (r.fin = -1 ∨ (r.hi ≤ r.fin ∧ r.fin ≤ 4611686018427387903))) := LH ⟨fun h => h.2.2.2, fun h => ⟨h0, by omega, by omega, h⟩⟩
  by_cases h3 : r.fin = -1
  · have d3 : (r.fin == -1) = true := by simpa using h3
    have HV : Hid (decide (plcRc r) = true) := LH (decide_eq_true (HP.out.2 (.inl h3)))
    clear h0 h1 h2 h3
    go_enter Tryz.func105, Tryz.ntmps105
    go_wp2
    refine wp_region_held_drew (S := (InRc w w.heap.size r A cap)) (by kernel_rfl) HH.out (fun hHeld => ?_)
    refine tK 0 (v := ?_) rfl hHeld ?_ ?_
    rotate_left
    · (intro wx hSx; obtain ⟨⟨a0, a1, a2, a3, a4, a5⟩, _⟩ : (_ ∧ _) ∧ True := ⟨hSx.1, trivial⟩; go_simp; (try with_reducible rfl))
    (try simp only [Act.put, zA, zC, zD, zE, zF])
    refine tK 1 (v := ?_) rfl hHeld ?_ ?_
    rotate_left
    · (intro wx hSx; obtain ⟨⟨a0, a1, a2, a3, a4, a5⟩, _⟩ : (_ ∧ _) ∧ True := ⟨hSx.1, trivial⟩; go_simp; (try with_reducible rfl))
    (try simp only [Act.put, zA, zB, zC, zD, zE, zF])
    refine wpAnyH_ready (rs := [2]) (by kernel_rfl) (by simp) ?_
    refine AllReadyH.cons rfl (fun K hK => ?_) AllReadyH.nil
    rw [if_pos (by rfl)]
    go_simp
    refine (HISB.out _ HH.out).mono ?_
    rintro e w1 ⟨rfl, hb1⟩
    have HH := LH (HH.out.next hb1)
    (try simp only [])
    refine hK.out _ _ HH.out (fun hHeld => ?_)
    clear hb1
    clear hK K
    (try simp only [Act.put, zA, zB, zC, zD, zE, zF])
    refine tK 3 (v := ?_) rfl hHeld ?_ ?_
    rotate_left
    · (intro wx hSx; obtain ⟨⟨a0, a1, a2, a3, a4, a5⟩, _⟩ : (_ ∧ _) ∧ True := ⟨hSx.1, trivial⟩; go_simp; (try with_reducible rfl))
    (try simp only [Act.put, zA, zB, zC, zD, zE, zF])
    refine tK 4 (v := ?_) rfl hHeld ?_ ?_
    rotate_left
    · (intro wx hSx; obtain ⟨⟨a0, a1, a2, a3, a4, a5⟩, _⟩ : (_ ∧ _) ∧ True := ⟨hSx.1, trivial⟩; go_simp; (try with_reducible rfl))
    (try simp only [Act.put, zA, zB, zC, zD, zE, zF])
    refine tK 5 (v := ?_) rfl hHeld ?_ ?_
    rotate_left
    · (intro wx hSx; obtain ⟨⟨a0, a1, a2, a3, a4, a5⟩, _⟩ : (_ ∧ _) ∧ True := ⟨hSx.1, trivial⟩; go_simp; (try with_reducible rfl))
    (try simp only [Act.put, zA, zB, zC, zD, zE, zF])
    refine tK 6 (v := ?_) rfl hHeld ?_ ?_
    rotate_left
    · (intro wx hSx; obtain ⟨⟨a0, a1, a2, a3, a4, a5⟩, _⟩ : (_ ∧ _) ∧ True := ⟨hSx.1, trivial⟩; go_simp; (try with_reducible rfl))
    (try simp only [Act.put, zA, zB, zC, zD, zE, zF])
    refine tK 8 (v := ?_) rfl hHeld ?_ ?_
    rotate_left
    · (intro wx hSx; obtain ⟨⟨a0, a1, a2, a3, a4, a5⟩, _⟩ : (_ ∧ _) ∧ True := ⟨hSx.1, trivial⟩; go_simp; (try with_reducible rfl))
    (try simp only [Act.put, zA, zB, zC, zD, zE, zF])
    refine tK 9 (v := ?_) rfl hHeld ?_ ?_
    rotate_left
    · (intro wx hSx; obtain ⟨⟨a0, a1, a2, a3, a4, a5⟩, _⟩ : (_ ∧ _) ∧ True := ⟨hSx.1, trivial⟩; go_simp; (try with_reducible rfl))
    (try simp only [Act.put, zA, zB, zC, zD, zE, zF])
    refine wpAnyH_ready (rs := [7]) (by kernel_rfl) (by simp) ?_
    refine AllReadyH.cons rfl (fun K hK => ?_) AllReadyH.nil
    rw [if_pos (by rfl)]
    go_simp
    refine (HEND.out _ HH.out).mono ?_
    rintro e w1 ⟨rfl, hb1⟩
    have HH := LH (HH.out.next hb1)
    (try simp only [])
    refine hK.out _ _ HH.out (fun hHeld => ?_)
    clear hb1
    clear hK K
    (try simp only [Act.put, zA, zB, zC, zD, zE, zF])
    refine tK 10 (v := ?_) rfl hHeld ?_ ?_
    rotate_left
    · (intro wx hSx; obtain ⟨⟨a0, a1, a2, a3, a4, a5⟩, _⟩ : (_ ∧ _) ∧ True := ⟨hSx.1, trivial⟩; go_simp; (try with_reducible rfl))
    (try simp only [Act.put, zA, zB, zC, zD, zE, zF])
    refine tK 11 (v := ?_) rfl hHeld ?_ ?_
    rotate_left
    · (intro wx hSx; obtain ⟨⟨a0, a1, a2, a3, a4, a5⟩, _⟩ : (_ ∧ _) ∧ True := ⟨hSx.1, trivial⟩; go_simp; (try with_reducible rfl))
    (try simp only [Act.put, zA, zB, zC, zD, zE, zF])
    refine tK 12 (v := ?_) rfl hHeld ?_ ?_
    rotate_left
    · (intro wx hSx; obtain ⟨⟨a0, a1, a2, a3, a4, a5⟩, _⟩ : (_ ∧ _) ∧ True := ⟨hSx.1, trivial⟩; go_simp; (try with_reducible rfl))
    (try simp only [Act.put, zA, zB, zC, zD, zE, zF])
    refine tK 13 (v := ?_) rfl hHeld ?_ ?_
    rotate_left
    · (intro wx hSx; obtain ⟨⟨a0, a1, a2, a3, a4, a5⟩, _⟩ : (_ ∧ _) ∧ True := ⟨hSx.1, trivial⟩; go_simp; (try with_reducible rfl))
    (try simp only [Act.put, zA, zB, zC, zD, zE, zF])
    refine tK 14 (v := ?_) rfl hHeld ?_ ?_
    rotate_left
    · (intro wx hSx; obtain ⟨⟨a0, a1, a2, a3, a4, a5⟩, _⟩ : (_ ∧ _) ∧ True := ⟨hSx.1, trivial⟩; go_simp; (try with_reducible rfl))
    (try simp only [Act.put, zA, zB, zC, zD, zE, zF])
    refine tK 15 (v := ?_) rfl hHeld ?_ ?_
    rotate_left
    · (intro wx hSx; obtain ⟨⟨a0, a1, a2, a3, a4, a5⟩, _⟩ : (_ ∧ _) ∧ True := ⟨hSx.1, trivial⟩; go_simp; (try with_reducible rfl))
    (try simp only [Act.put, zA, zB, zC, zD, zE, zF])
    refine tK 16 (v := ?_) rfl hHeld ?_ ?_
    rotate_left
    · (intro wx hSx; obtain ⟨⟨a0, a1, a2, a3, a4, a5⟩, _⟩ : (_ ∧ _) ∧ True := ⟨hSx.1, trivial⟩; go_simp; (try with_reducible rfl))
    (try simp only [Act.put, zA, zB, zC, zD, zE, zF])
    refine wpAnyH_done (by kernel_rfl) ?_ _
    clear hHeld
    obtain ⟨a0, a1, a2, a3, a4, a5⟩ := HH.out.1
    go_wp2
    go_ret
    exact ⟨by rw [HV.out]; rfl, HH.out.2.2.2⟩
  have d3 : (r.fin == -1) = false := by simpa using h3
  by_cases h4 : r.hi ≤ r.fin
  · have d4 : decide (r.hi ≤ r.fin) = true := decide_eq_true h4
    have HV : Hid (decide (plcRc r) = decide (r.fin ≤ 4611686018427387903)) := LH (decide_eq_decide.2 (HP.out.trans ⟨fun h => by omega, fun h => .inr ⟨h4, h⟩⟩))
    clear h0 h1 h2 h3 h4
    go_enter Tryz.func105, Tryz.ntmps105
    go_wp2
    refine wp_region_held_drew (S := (InRc w w.heap.size r A cap)) (by kernel_rfl) HH.out (fun hHeld => ?_)
    refine tK 0 (v := ?_) rfl hHeld ?_ ?_
    rotate_left
    · (intro wx hSx; obtain ⟨⟨a0, a1, a2, a3, a4, a5⟩, _⟩ : (_ ∧ _) ∧ True := ⟨hSx.1, trivial⟩; go_simp; (try with_reducible rfl))
    (try simp only [Act.put, zA, zC, zD, zE, zF])
    refine tK 1 (v := ?_) rfl hHeld ?_ ?_
    rotate_left
    · (intro wx hSx; obtain ⟨⟨a0, a1, a2, a3, a4, a5⟩, _⟩ : (_ ∧ _) ∧ True := ⟨hSx.1, trivial⟩; go_simp; (try with_reducible rfl))
    (try simp only [Act.put, zA, zB, zC, zD, zE, zF])
    refine wpAnyH_ready (rs := [2]) (by kernel_rfl) (by simp) ?_
    refine AllReadyH.cons rfl (fun K hK => ?_) AllReadyH.nil
    rw [if_pos (by rfl)]
    go_simp
    refine (HISB.out _ HH.out).mono ?_
    rintro e w1 ⟨rfl, hb1⟩
    have HH := LH (HH.out.next hb1)
    (try simp only [])
    refine hK.out _ _ HH.out (fun hHeld => ?_)
    clear hb1
    clear hK K
    (try simp only [Act.put, zA, zB, zC, zD, zE, zF])
    refine tK 3 (v := ?_) rfl hHeld ?_ ?_
    rotate_left
    · (intro wx hSx; obtain ⟨⟨a0, a1, a2, a3, a4, a5⟩, _⟩ : (_ ∧ _) ∧ True := ⟨hSx.1, trivial⟩; go_simp; (try with_reducible rfl))
    (try simp only [Act.put, zA, zB, zC, zD, zE, zF])
    refine tK 4 (v := ?_) rfl hHeld ?_ ?_
    rotate_left
    · (intro wx hSx; obtain ⟨⟨a0, a1, a2, a3, a4, a5⟩, _⟩ : (_ ∧ _) ∧ True := ⟨hSx.1, trivial⟩; go_simp; (try with_reducible rfl))
    (try simp only [Act.put, zA, zB, zC, zD, zE, zF])
    refine tK 5 (v := ?_) rfl hHeld ?_ ?_
    rotate_left
    · (intro wx hSx; obtain ⟨⟨a0, a1, a2, a3, a4, a5⟩, _⟩ : (_ ∧ _) ∧ True := ⟨hSx.1, trivial⟩; go_simp; (try with_reducible rfl))
    (try simp only [Act.put, zA, zB, zC, zD, zE, zF])
    refine tK 6 (v := ?_) rfl hHeld ?_ ?_
    rotate_left
    · (intro wx hSx; obtain ⟨⟨a0, a1, a2, a3, a4, a5⟩, _⟩ : (_ ∧ _) ∧ True := ⟨hSx.1, trivial⟩; go_simp; (try with_reducible rfl))
    (try simp only [Act.put, zA, zB, zC, zD, zE, zF])
    refine tK 8 (v := ?_) rfl hHeld ?_ ?_
    rotate_left
    · (intro wx hSx; obtain ⟨⟨a0, a1, a2, a3, a4, a5⟩, _⟩ : (_ ∧ _) ∧ True := ⟨hSx.1, trivial⟩; go_simp; (try with_reducible rfl))
    (try simp only [Act.put, zA, zB, zC, zD, zE, zF])
    refine tK 9 (v := ?_) rfl hHeld ?_ ?_
    rotate_left
    · (intro wx hSx; obtain ⟨⟨a0, a1, a2, a3, a4, a5⟩, _⟩ : (_ ∧ _) ∧ True := ⟨hSx.1, trivial⟩; go_simp; (try with_reducible rfl))
    (try simp only [Act.put, zA, zB, zC, zD, zE, zF])
    refine wpAnyH_ready (rs := [7]) (by kernel_rfl) (by simp) ?_
    refine AllReadyH.cons rfl (fun K hK => ?_) AllReadyH.nil
    rw [if_pos (by rfl)]
    go_simp
    refine (HEND.out _ HH.out).mono ?_
    rintro e w1 ⟨rfl, hb1⟩
    have HH := LH (HH.out.next hb1)
    (try simp only [])
    refine hK.out _ _ HH.out (fun hHeld => ?_)
    clear hb1
    clear hK K
    (try simp only [Act.put, zA, zB, zC, zD, zE, zF])
    refine tK 10 (v := ?_) rfl hHeld ?_ ?_
    rotate_left
    · (intro wx hSx; obtain ⟨⟨a0, a1, a2, a3, a4, a5⟩, _⟩ : (_ ∧ _) ∧ True := ⟨hSx.1, trivial⟩; go_simp; (try with_reducible rfl))
    (try simp only [Act.put, zA, zB, zC, zD, zE, zF])
    refine tK 11 (v := ?_) rfl hHeld ?_ ?_
    rotate_left
    · (intro wx hSx; obtain ⟨⟨a0, a1, a2, a3, a4, a5⟩, _⟩ : (_ ∧ _) ∧ True := ⟨hSx.1, trivial⟩; go_simp; (try with_reducible rfl))
    (try simp only [Act.put, zA, zB, zC, zD, zE, zF])
    refine tK 12 (v := ?_) rfl hHeld ?_ ?_
    rotate_left
    · (intro wx hSx; obtain ⟨⟨a0, a1, a2, a3, a4, a5⟩, _⟩ : (_ ∧ _) ∧ True := ⟨hSx.1, trivial⟩; go_simp; (try with_reducible rfl))
    (try simp only [Act.put, zA, zB, zC, zD, zE, zF])
    refine tK 13 (v := ?_) rfl hHeld ?_ ?_
    rotate_left
    · (intro wx hSx; obtain ⟨⟨a0, a1, a2, a3, a4, a5⟩, _⟩ : (_ ∧ _) ∧ True := ⟨hSx.1, trivial⟩; go_simp; (try with_reducible rfl))
    (try simp only [Act.put, zA, zB, zC, zD, zE, zF])
    refine tK 14 (v := ?_) rfl hHeld ?_ ?_
    rotate_left
    · (intro wx hSx; obtain ⟨⟨a0, a1, a2, a3, a4, a5⟩, _⟩ : (_ ∧ _) ∧ True := ⟨hSx.1, trivial⟩; go_simp; (try with_reducible rfl))
    (try simp only [Act.put, zA, zB, zC, zD, zE, zF])
    refine tK 15 (v := ?_) rfl hHeld ?_ ?_
    rotate_left
    · (intro wx hSx; obtain ⟨⟨a0, a1, a2, a3, a4, a5⟩, _⟩ : (_ ∧ _) ∧ True := ⟨hSx.1, trivial⟩; go_simp; (try with_reducible rfl))
    (try simp only [Act.put, zA, zB, zC, zD, zE, zF])
    refine tK 16 (v := ?_) rfl hHeld ?_ ?_
    rotate_left
    · (intro wx hSx; obtain ⟨⟨a0, a1, a2, a3, a4, a5⟩, _⟩ : (_ ∧ _) ∧ True := ⟨hSx.1, trivial⟩; go_simp; (try with_reducible rfl))
    (try simp only [Act.put, zA, zB, zC, zD, zE, zF])
    refine wpAnyH_done (by kernel_rfl) ?_ _
    clear hHeld
    obtain ⟨a0, a1, a2, a3, a4, a5⟩ := HH.out.1
    go_wp2
    go_ret
    exact ⟨by rw [HV.out]; rfl, HH.out.2.2.2⟩
  have d4 : decide (r.hi ≤ r.fin) = false := decide_eq_false h4
  have HV : Hid (decide (plcRc r) = false) := LH (decide_eq_false (fun h => by have := HP.out.1 h; omega))
  clear h0 h1 h2 h3 h4
  go_enter Tryz.func105, Tryz.ntmps105
  go_wp2
  refine wp_region_held_drew (S := (InRc w w.heap.size r A cap)) (by kernel_rfl) HH.out (fun hHeld => ?_)
  refine tK 0 (v := ?_) rfl hHeld ?_ ?_
  rotate_left
  · (intro wx hSx; obtain ⟨⟨a0, a1, a2, a3, a4, a5⟩, _⟩ : (_ ∧ _) ∧ True := ⟨hSx.1, trivial⟩; go_simp; (try with_reducible rfl))
  (try simp only [Act.put, zA, zC, zD, zE, zF])
  refine tK 1 (v := ?_) rfl hHeld ?_ ?_
  rotate_left
  · (intro wx hSx; obtain ⟨⟨a0, a1, a2, a3, a4, a5⟩, _⟩ : (_ ∧ _) ∧ True := ⟨hSx.1, trivial⟩; go_simp; (try with_reducible rfl))
  (try simp only [Act.put, zA, zB, zC, zD, zE, zF])
  refine wpAnyH_ready (rs := [2]) (by kernel_rfl) (by simp) ?_
  refine AllReadyH.cons rfl (fun K hK => ?_) AllReadyH.nil
  rw [if_pos (by rfl)]
  go_simp
  refine (HISB.out _ HH.out).mono ?_
  rintro e w1 ⟨rfl, hb1⟩
  have HH := LH (HH.out.next hb1)
  (try simp only [])
  refine hK.out _ _ HH.out (fun hHeld => ?_)
  clear hb1
  clear hK K
  (try simp only [Act.put, zA, zB, zC, zD, zE, zF])
  refine tK 3 (v := ?_) rfl hHeld ?_ ?_
  rotate_left
  · (intro wx hSx; obtain ⟨⟨a0, a1, a2, a3, a4, a5⟩, _⟩ : (_ ∧ _) ∧ True := ⟨hSx.1, trivial⟩; go_simp; (try with_reducible rfl))
  (try simp only [Act.put, zA, zB, zC, zD, zE, zF])
  refine tK 4 (v := ?_) rfl hHeld ?_ ?_
  rotate_left
  · (intro wx hSx; obtain ⟨⟨a0, a1, a2, a3, a4, a5⟩, _⟩ : (_ ∧ _) ∧ True := ⟨hSx.1, trivial⟩; go_simp; (try with_reducible rfl))
  (try simp only [Act.put, zA, zB, zC, zD, zE, zF])
  refine tK 5 (v := ?_) rfl hHeld ?_ ?_
  rotate_left
  · (intro wx hSx; obtain ⟨⟨a0, a1, a2, a3, a4, a5⟩, _⟩ : (_ ∧ _) ∧ True := ⟨hSx.1, trivial⟩; go_simp; (try with_reducible rfl))
  (try simp only [Act.put, zA, zB, zC, zD, zE, zF])
  refine tK 6 (v := ?_) rfl hHeld ?_ ?_
  rotate_left
  · (intro wx hSx; obtain ⟨⟨a0, a1, a2, a3, a4, a5⟩, _⟩ : (_ ∧ _) ∧ True := ⟨hSx.1, trivial⟩; go_simp; (try with_reducible rfl))
  (try simp only [Act.put, zA, zB, zC, zD, zE, zF])
  refine tK 8 (v := ?_) rfl hHeld ?_ ?_
  rotate_left
  · (intro wx hSx; obtain ⟨⟨a0, a1, a2, a3, a4, a5⟩, _⟩ : (_ ∧ _) ∧ True := ⟨hSx.1, trivial⟩; go_simp; (try with_reducible rfl))
  (try simp only [Act.put, zA, zB, zC, zD, zE, zF])
  refine tK 9 (v := ?_) rfl hHeld ?_ ?_
  rotate_left
  · (intro wx hSx; obtain ⟨⟨a0, a1, a2, a3, a4, a5⟩, _⟩ : (_ ∧ _) ∧ True := ⟨hSx.1, trivial⟩; go_simp; (try with_reducible rfl))
  (try simp only [Act.put, zA, zB, zC, zD, zE, zF])
  refine wpAnyH_ready (rs := [7]) (by kernel_rfl) (by simp) ?_
  refine AllReadyH.cons rfl (fun K hK => ?_) AllReadyH.nil
  rw [if_pos (by rfl)]
  go_simp
  refine (HEND.out _ HH.out).mono ?_
  rintro e w1 ⟨rfl, hb1⟩
  have HH := LH (HH.out.next hb1)
  (try simp only [])
  refine hK.out _ _ HH.out (fun hHeld => ?_)
  clear hb1
  clear hK K
  (try simp only [Act.put, zA, zB, zC, zD, zE, zF])
  refine tK 10 (v := ?_) rfl hHeld ?_ ?_
  rotate_left
  · (intro wx hSx; obtain ⟨⟨a0, a1, a2, a3, a4, a5⟩, _⟩ : (_ ∧ _) ∧ True := ⟨hSx.1, trivial⟩; go_simp; (try with_reducible rfl))
  (try simp only [Act.put, zA, zB, zC, zD, zE, zF])
  refine tK 11 (v := ?_) rfl hHeld ?_ ?_
  rotate_left
  · (intro wx hSx; obtain ⟨⟨a0, a1, a2, a3, a4, a5⟩, _⟩ : (_ ∧ _) ∧ True := ⟨hSx.1, trivial⟩; go_simp; (try with_reducible rfl))
  (try simp only [Act.put, zA, zB, zC, zD, zE, zF])
  refine tK 12 (v := ?_) rfl hHeld ?_ ?_
  rotate_left
  · (intro wx hSx; obtain ⟨⟨a0, a1, a2, a3, a4, a5⟩, _⟩ : (_ ∧ _) ∧ True := ⟨hSx.1, trivial⟩; go_simp; (try with_reducible rfl))
  (try simp only [Act.put, zA, zB, zC, zD, zE, zF])
  refine tK 13 (v := ?_) rfl hHeld ?_ ?_
  rotate_left
  · (intro wx hSx; obtain ⟨⟨a0, a1, a2, a3, a4, a5⟩, _⟩ : (_ ∧ _) ∧ True := ⟨hSx.1, trivial⟩; go_simp; (try with_reducible rfl))
  (try simp only [Act.put, zA, zB, zC, zD, zE, zF])
  refine tK 14 (v := ?_) rfl hHeld ?_ ?_
  rotate_left
  · (intro wx hSx; obtain ⟨⟨a0, a1, a2, a3, a4, a5⟩, _⟩ : (_ ∧ _) ∧ True := ⟨hSx.1, trivial⟩; go_simp; (try with_reducible rfl))
  (try simp only [Act.put, zA, zB, zC, zD, zE, zF])
  refine tK 15 (v := ?_) rfl hHeld ?_ ?_
  rotate_left
  · (intro wx hSx; obtain ⟨⟨a0, a1, a2, a3, a4, a5⟩, _⟩ : (_ ∧ _) ∧ True := ⟨hSx.1, trivial⟩; go_simp; (try with_reducible rfl))
  (try simp only [Act.put, zA, zB, zC, zD, zE, zF])
  refine tK 16 (v := ?_) rfl hHeld ?_ ?_
  rotate_left
  · (intro wx hSx; obtain ⟨⟨a0, a1, a2, a3, a4, a5⟩, _⟩ : (_ ∧ _) ∧ True := ⟨hSx.1, trivial⟩; go_simp; (try with_reducible rfl))
  (try simp only [Act.put, zA, zB, zC, zD, zE, zF])
  refine wpAnyH_done (by kernel_rfl) ?_ _
  clear hHeld
  obtain ⟨a0, a1, a2, a3, a4, a5⟩ := HH.out.1
  go_wp2
  go_ret
  exact ⟨by rw [HV.out]; rfl, HH.out.2.2.2⟩
theorem iag0 (r : Rc) (A : Option Addr) (cap B : Nat) (w : World) (hB : B ≤ w.heap.size) (hr : Chs w B A r.buf.chs) :
    Calls Tryz.prog 187 #[.agg #[], rcV r (.slice A r.buf.chs.length cap)] w fun e w' => e = .returned (.bool (decide (r.fin = -1 ∧ r.code = 0))) ∧ Below w.heap.size w w' := by
  have hz : (w.alloc (.cells #[] 135)).heap.size = w.heap.size + 1 := by simp
  have X := InRc.start (w.alloc (.cells #[] 135)) r A cap 40 ((hr.up hB).below (Nat.le_refl _) ((Below.refl _ _).alloc (Nat.le_refl _) _) |>.up (by simp))
  rw [hz] at X
  have HH := LH X
  have HE : Hid (∀ W, Below (w.heap.size + 1) (w.alloc (.cells #[] 135)) W → Below w.heap.size w W) := LH fun W h => ((Below.refl _ _).alloc (Nat.le_refl _) _).trans (h.mono (Nat.le_succ _))
  clear X hz
  clear hr
  by_cases h0 : r.fin = -1
  · have d0 : (r.fin == -1) = true := by simpa using h0
    have HV : Hid (decide (r.fin = -1 ∧ r.code = 0) = (r.code == 0)) := LH (decide_eq_decide.2 ⟨fun h => h.2, fun h => ⟨h0, h⟩⟩)
    clear h0
    go_enter Tryz.func187, Tryz.ntmps187
    obtain ⟨a0, a1, a2, a3, a4, a5⟩ := HH.out.1
    go_wp2
    go_ret
    exact ⟨by rw [HV.out]; rfl, HE.out _ HH.out.2.2.2⟩
  have d0 : (r.fin == -1) = false := by simpa using h0
  have HV : Hid (decide (r.fin = -1 ∧ r.code = 0) = false) := LH (decide_eq_false fun h => h0 h.1)
  clear h0
  go_enter Tryz.func187, Tryz.ntmps187
  obtain ⟨a0, a1, a2, a3, a4, a5⟩ := HH.out.1
  go_wp2
  go_ret
  exact ⟨by rw [HV.out]; rfl, HE.out _ HH.out.2.2.2⟩
theorem iag1 (r : Rc) (A : Option Addr) (cap B : Nat) (w : World) (hB : B ≤ w.heap.size) (hr : Chs w B A r.buf.chs) (hn : r.buf.chs.length ≤ 1000000000) (hi : inB r.buf.chs) (hx : inRc r) (hok : okB r.buf) :
    Calls Tryz.prog 189 #[.agg #[], rcV r (.slice A r.buf.chs.length cap)] w fun e w' => e = .returned (.bool (decide (r.fin ≠ -1 ∧ ¬ fullRc r ∧ r.code = 0))) ∧ Below w.heap.size w w' := by
  have hz : (w.alloc (.cells #[] 136)).heap.size = w.heap.size + 1 := by simp
  have X := InRc.start (w.alloc (.cells #[] 136)) r A cap 40 ((hr.up hB).below (Nat.le_refl _) ((Below.refl _ _).alloc (Nat.le_refl _) _) |>.up (by simp))
  rw [hz] at X
  have HH := LH X
  have HE : Hid (∀ W, Below (w.heap.size + 1) (w.alloc (.cells #[] 136)) W → Below w.heap.size w W) := LH fun W h => ((Below.refl _ _).alloc (Nat.le_refl _) _).trans (h.mono (Nat.le_succ _))
  clear X hz
  have HAD : Hid (∀ W, InRc (w.alloc (.cells #[] 136)) (w.heap.size + 1) r A cap W → Calls Tryz.prog 53 #[rcV r (.slice A r.buf.chs.length cap)] W fun e w' => e = .returned (.bool (decide (fullRc r))) ∧ Below W.heap.size W w') := LH fun W h => iall r A cap (w.heap.size + 1) W (Nat.le_of_lt h.2.2.1) h.2.1 hn hi hx hok
  clear hr hi hx hn hok
  by_cases h0 : r.fin = -1
  · have d0 : (r.fin != -1) = false := by simpa using h0
    have HV : Hid (decide (r.fin ≠ -1 ∧ ¬ fullRc r ∧ r.code = 0) = false) := LH (decide_eq_false fun h => h.1 h0)
    clear h0
    go_enter Tryz.func189, Tryz.ntmps189
    obtain ⟨a0, a1, a2, a3, a4, a5⟩ := HH.out.1
    go_wp2
    go_ret
    exact ⟨by rw [HV.out]; rfl, HE.out _ HH.out.2.2.2⟩
  have d0 : (r.fin != -1) = true := by simpa using h0
  by_cases h1 : fullRc r
  · rw [decide_eq_true h1] at HAD
    have HV : Hid (decide (r.fin ≠ -1 ∧ ¬ fullRc r ∧ r.code = 0) = false) := LH (decide_eq_false fun h => h.2.1 h1)
    clear h0 h1
    go_enter Tryz.func189, Tryz.ntmps189
    obtain ⟨a0, a1, a2, a3, a4, a5⟩ := HH.out.1
    go_wp2_with fail
    refine (HAD.out _ HH.out).mono ?_
    rintro e w1 ⟨rfl, hb1⟩
    have HH := LH (HH.out.next hb1)
    clear hb1 a0 a1 a2 a3 a4 a5
    obtain ⟨a0, a1, a2, a3, a4, a5⟩ := HH.out.1
    go_wp2
    go_ret
    exact ⟨by rw [HV.out]; rfl, HE.out _ HH.out.2.2.2⟩
  rw [decide_eq_false h1] at HAD
  have HV : Hid (decide (r.fin ≠ -1 ∧ ¬ fullRc r ∧ r.code = 0) = (r.code == 0)) := LH (decide_eq_decide.2 ⟨fun h => h.2.2, fun h => ⟨h0, h1, h⟩⟩)
  clear h0 h1
  go_enter Tryz.func189, Tryz.ntmps189
  obtain ⟨a0, a1, a2, a3, a4, a5⟩ := HH.out.1
  go_wp2_with fail
  refine (HAD.out _ HH.out).mono ?_
  rintro e w1 ⟨rfl, hb1⟩
  have HH := LH (HH.out.next hb1)
  clear hb1 a0 a1 a2 a3 a4 a5
  obtain ⟨a0, a1, a2, a3, a4, a5⟩ := HH.out.1
  go_wp2
  go_ret
  exact ⟨by rw [HV.out]; rfl, HE.out _ HH.out.2.2.2⟩
theorem iag2 (r : Rc) (A : Option Addr) (cap B : Nat) (w : World) (hB : B ≤ w.heap.size) (hr : Chs w B A r.buf.chs) (hn : r.buf.chs.length ≤ 1000000000) (hi : inB r.buf.chs) (hx : inRc r) (hok : okB r.buf) :
    Calls Tryz.prog 191 #[.agg #[], rcV r (.slice A r.buf.chs.length cap)] w fun e w' => e = .returned (.bool (decide (fullRc r ∧ r.code = 0))) ∧ Below w.heap.size w w' := by
  have hz : (w.alloc (.cells #[] 144)).heap.size = w.heap.size + 1 := by simp
  have X := InRc.start (w.alloc (.cells #[] 144)) r A cap 40 ((hr.up hB).below (Nat.le_refl _) ((Below.refl _ _).alloc (Nat.le_refl _) _) |>.up (by simp))
  rw [hz] at X
  have HH := LH X
  have HE : Hid (∀ W, Below (w.heap.size + 1) (w.alloc (.cells #[] 144)) W → Below w.heap.size w W) := LH fun W h => ((Below.refl _ _).alloc (Nat.le_refl _) _).trans (h.mono (Nat.le_succ _))
  clear X hz
  have HAD : Hid (∀ W, InRc (w.alloc (.cells #[] 144)) (w.heap.size + 1) r A cap W → Calls Tryz.prog 53 #[rcV r (.slice A r.buf.chs.length cap)] W fun e w' => e = .returned (.bool (decide (fullRc r))) ∧ Below W.heap.size W w') := LH fun W h => iall r A cap (w.heap.size + 1) W (Nat.le_of_lt h.2.2.1) h.2.1 hn hi hx hok
  clear hr hi hx hn hok
  by_cases h1 : fullRc r
  · rw [decide_eq_true h1] at HAD
    have HV : Hid (decide (fullRc r ∧ r.code = 0) = (r.code == 0)) := LH (decide_eq_decide.2 ⟨fun h => h.2, fun h => ⟨h1, h⟩⟩)
    clear h1
    go_enter Tryz.func191, Tryz.ntmps191
    obtain ⟨a0, a1, a2, a3, a4, a5⟩ := HH.out.1
    go_wp2_with fail
    refine (HAD.out _ HH.out).mono ?_
    rintro e w1 ⟨rfl, hb1⟩
    have HH := LH (HH.out.next hb1)
    clear hb1 a0 a1 a2 a3 a4 a5
    obtain ⟨a0, a1, a2, a3, a4, a5⟩ := HH.out.1
    go_wp2
    go_ret
    exact ⟨by rw [HV.out]; rfl, HE.out _ HH.out.2.2.2⟩
  rw [decide_eq_false h1] at HAD
  have HV : Hid (decide (fullRc r ∧ r.code = 0) = false) := LH (decide_eq_false fun h => h1 h.1)
  clear h1
  go_enter Tryz.func191, Tryz.ntmps191
  obtain ⟨a0, a1, a2, a3, a4, a5⟩ := HH.out.1
  go_wp2_with fail
  refine (HAD.out _ HH.out).mono ?_
  rintro e w1 ⟨rfl, hb1⟩
  have HH := LH (HH.out.next hb1)
  clear hb1 a0 a1 a2 a3 a4 a5
  obtain ⟨a0, a1, a2, a3, a4, a5⟩ := HH.out.1
  go_wp2
  go_ret
  exact ⟨by rw [HV.out]; rfl, HE.out _ HH.out.2.2.2⟩
theorem iag3 (r : Rc) (A : Option Addr) (cap B : Nat) (w : World) (hB : B ≤ w.heap.size) (hr : Chs w B A r.buf.chs) (hn : r.buf.chs.length ≤ 1000000000) (hi : inB r.buf.chs) (hx : inRc r) (hok : okB r.buf) :
    Calls Tryz.prog 195 #[.agg #[], rcV r (.slice A r.buf.chs.length cap)] w fun e w' => e = .returned (.bool (decide ((fullRc r ∧ r.code = 0) ∧ r.buf.chs = []))) ∧ Below w.heap.size w w' := by
  have hz : (w.alloc (.cells #[] 171)).heap.size = w.heap.size + 1 := by simp
  have X := InRc.start (w.alloc (.cells #[] 171)) r A cap 40 ((hr.up hB).below (Nat.le_refl _) ((Below.refl _ _).alloc (Nat.le_refl _) _) |>.up (by simp))
  rw [hz] at X
  have HH := LH X
  have HE : Hid (∀ W, Below (w.heap.size + 1) (w.alloc (.cells #[] 171)) W → Below w.heap.size w W) := LH fun W h => ((Below.refl _ _).alloc (Nat.le_refl _) _).trans (h.mono (Nat.le_succ _))
  clear X hz
  have HAL : Hid (∀ W, InRc (w.alloc (.cells #[] 171)) (w.heap.size + 1) r A cap W → Calls Tryz.prog 191 #[.agg #[], rcV r (.slice A r.buf.chs.length cap)] W fun e w' => e = .returned (.bool (decide (fullRc r ∧ r.code = 0))) ∧ Below W.heap.size W w') := LH fun W h => iag2 r A cap (w.heap.size + 1) W (Nat.le_of_lt h.2.2.1) h.2.1 hn hi hx hok
  have HL : Hid (decide (r.buf.chs = []) = ((r.buf.chs.length : Int) == 0)) := LH (decide_eq_decide.2 ⟨fun h => by rw [h]; rfl, fun h => List.eq_nil_of_length_eq_zero (by omega)⟩)
  clear hr hi hx hn hok
  by_cases h1 : fullRc r ∧ r.code = 0
  · rw [decide_eq_true h1] at HAL
    have HV : Hid (decide ((fullRc r ∧ r.code = 0) ∧ r.buf.chs = []) = ((r.buf.chs.length : Int) == 0)) := LH ((decide_eq_decide.2 ⟨fun h => h.2, fun h => ⟨h1, h⟩⟩).trans HL.out)
    clear h1
    go_enter Tryz.func195, Tryz.ntmps195
    obtain ⟨a0, a1, a2, a3, a4, a5⟩ := HH.out.1
    go_wp2_with fail
    refine (HAL.out _ HH.out).mono ?_
    rintro e w1 ⟨rfl, hb1⟩
    have HH := LH (HH.out.next hb1)
    clear hb1 a0 a1 a2 a3 a4 a5
    obtain ⟨a0, a1, a2, a3, a4, a5⟩ := HH.out.1
    go_wp2
    go_ret
    exact ⟨by rw [HV.out]; rfl, HE.out _ HH.out.2.2.2⟩
  rw [decide_eq_false h1] at HAL
  have HV : Hid (decide ((fullRc r ∧ r.code = 0) ∧ r.buf.chs = []) = false) := LH (decide_eq_false fun h => h1 h.1)
  clear h1
  go_enter Tryz.func195, Tryz.ntmps195
  obtain ⟨a0, a1, a2, a3, a4, a5⟩ := HH.out.1
  go_wp2_with fail
  refine (HAL.out _ HH.out).mono ?_
  rintro e w1 ⟨rfl, hb1⟩
  have HH := LH (HH.out.next hb1)
  clear hb1 a0 a1 a2 a3 a4 a5
  obtain ⟨a0, a1, a2, a3, a4, a5⟩ := HH.out.1
  go_wp2
  go_ret
  exact ⟨by rw [HV.out]; rfl, HE.out _ HH.out.2.2.2⟩
theorem iag4 (r : Rc) (A : Option Addr) (cap B : Nat) (w : World) (hB : B ≤ w.heap.size) (hr : Chs w B A r.buf.chs) :
    Calls Tryz.prog 193 #[.agg #[], rcV r (.slice A r.buf.chs.length cap)] w fun e w' => e = .returned (.bool (decide (r.fin = r.hi ∧ r.buf.chs = []))) ∧ Below w.heap.size w w' := by
  have hz : (w.alloc (.cells #[] 145)).heap.size = w.heap.size + 1 := by simp
  have X := InRc.start (w.alloc (.cells #[] 145)) r A cap 40 ((hr.up hB).below (Nat.le_refl _) ((Below.refl _ _).alloc (Nat.le_refl _) _) |>.up (by simp))
  rw [hz] at X
  have HH := LH X
  have HE : Hid (∀ W, Below (w.heap.size + 1) (w.alloc (.cells #[] 145)) W → Below w.heap.size w W) := LH fun W h => ((Below.refl _ _).alloc (Nat.le_refl _) _).trans (h.mono (Nat.le_succ _))
  clear X hz
  have HL : Hid (decide (r.buf.chs = []) = ((r.buf.chs.length : Int) == 0)) := LH (decide_eq_decide.2 ⟨fun h => by rw [h]; rfl, fun h => List.eq_nil_of_length_eq_zero (by omega)⟩)
  clear hr
  by_cases h0 : r.fin = r.hi
  · have d0 : (r.fin == r.hi) = true := by simpa using h0
    have HV : Hid (decide (r.fin = r.hi ∧ r.buf.chs = []) = ((r.buf.chs.length : Int) == 0)) := LH ((decide_eq_decide.2 ⟨fun h => h.2, fun h => ⟨h0, h⟩⟩).trans HL.out)
    clear h0
    go_enter Tryz.func193, Tryz.ntmps193
    obtain ⟨a0, a1, a2, a3, a4, a5⟩ := HH.out.1
    go_wp2
    go_ret
    exact ⟨by rw [HV.out]; rfl, HE.out _ HH.out.2.2.2⟩
  have d0 : (r.fin == r.hi) = false := by simpa using h0
  have HV : Hid (decide (r.fin = r.hi ∧ r.buf.chs = []) = false) := LH (decide_eq_false fun h => h0 h.1)
  clear h0
  go_enter Tryz.func193, Tryz.ntmps193
  obtain ⟨a0, a1, a2, a3, a4, a5⟩ := HH.out.1
  go_wp2
  go_ret
  exact ⟨by rw [HV.out]; rfl, HE.out _ HH.out.2.2.2⟩
theorem iag5 (r : Rc) (A : Option Addr) (cap B : Nat) (w : World) (hB : B ≤ w.heap.size) (hr : Chs w B A r.buf.chs) :
    Calls Tryz.prog 197 #[.agg #[], rcV r (.slice A r.buf.chs.length cap)] w fun e w' => e = .returned (.bool (decide (r.fin = r.hi ∧ r.buf.chs = []))) ∧ Below w.heap.size w w' := by
  have hz : (w.alloc (.cells #[] 172)).heap.size = w.heap.size + 1 := by simp
  have X := InRc.start (w.alloc (.cells #[] 172)) r A cap 40 ((hr.up hB).below (Nat.le_refl _) ((Below.refl _ _).alloc (Nat.le_refl _) _) |>.up (by simp))
  rw [hz] at X
  have HH := LH X
  have HE : Hid (∀ W, Below (w.heap.size + 1) (w.alloc (.cells #[] 172)) W → Below w.heap.size w W) := LH fun W h => ((Below.refl _ _).alloc (Nat.le_refl _) _).trans (h.mono (Nat.le_succ _))
  clear X hz
  have HAR : Hid (∀ W, InRc (w.alloc (.cells #[] 172)) (w.heap.size + 1) r A cap W → Calls Tryz.prog 193 #[.agg #[], rcV r (.slice A r.buf.chs.length cap)] W fun e w' => e = .returned (.bool (decide (r.fin = r.hi ∧ r.buf.chs = []))) ∧ Below W.heap.size W w') := LH fun W h => iag4 r A cap (w.heap.size + 1) W (Nat.le_of_lt h.2.2.1) h.2.1
  obtain ⟨bz, hbz⟩ : ∃ b, decide (r.fin = r.hi ∧ r.buf.chs = []) = b := ⟨_, rfl⟩
  rw [hbz] at HAR
  have HV := LH hbz
  clear hr hbz
  go_enter Tryz.func197, Tryz.ntmps197
  obtain ⟨a0, a1, a2, a3, a4, a5⟩ := HH.out.1
  go_wp2_with fail
  refine (HAR.out _ HH.out).mono ?_
  rintro e w1 ⟨rfl, hb1⟩
  have HH := LH (HH.out.next hb1)
  clear hb1 a0 a1 a2 a3 a4 a5
  obtain ⟨a0, a1, a2, a3, a4, a5⟩ := HH.out.1
  go_wp2
  go_ret
  exact ⟨by rw [HV.out]; rfl, HE.out _ HH.out.2.2.2⟩
end Go.Proofs.YtdaoaedkjoknmaaGreat
