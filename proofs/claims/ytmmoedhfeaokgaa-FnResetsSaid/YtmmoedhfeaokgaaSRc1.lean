/-
  What spec.IsReceiver returns.
-/
import Derived.Test.YtmmoedhfeaokgaaSRc1a
namespace Go.Proofs.Ytmmoedhfeaokgaa
open Go.RowKit Go.Deep Go.Proofs.Ytmmoedhfeaokgaa.Num

set_option maxRecDepth 100000 in
set_option maxHeartbeats 4000000 in
/-- No final size. -/
theorem sisrc_open (r : Rc) (A : Option Addr) (cap B : Nat) (w : World) (hB : B ≤ w.heap.size) (hr : Chs w B A r.buf.chs) (hn : r.buf.chs.length ≤ 1000000000) (hi : inB r.buf.chs) (hx : inRc r) (h0 : okB r.buf) (h1 : 0 ≤ r.hi ∧ r.hi ≤ 4611686018427387903) (h2 : ¬ (r.hi < endB r.buf)) (h3 : 0 ≤ r.code ∧ r.code ≤ 4611686018427387903) (hf : r.fin = -1) (hh : headRc r) :
    Calls Try.prog 19 #[rcV r (.slice A r.buf.chs.length cap)] w fun e w' => e = .returned (.bool (decide (okRc r))) ∧ Below w.heap.size w w' := by
  have HH := Lib.hid (InRc.start w r A cap 28 (hr.wide hB)).drew
  have HISB : Hid (∀ W, InRc w w.heap.size r A cap W → Calls Try.prog 50 #[bfV r.buf.next (.slice A r.buf.chs.length cap)] W fun e w' => e = .returned (.bool (decide (okB r.buf))) ∧ Below W.heap.size W w') := Lib.hid fun W h => sisb r.buf A cap w.heap.size W (Nat.le_of_lt h.2.2.1) h.2.1 hn hi hx.2.1
  have HEND : Hid (∀ W, InRc w w.heap.size r A cap W → Calls Try.prog 51 #[bfV r.buf.next (.slice A r.buf.chs.length cap)] W fun e w' => e = .returned (.int .i64 (endB r.buf)) ∧ Below W.heap.size W w') := Lib.hid fun W h => sendof r.buf A cap w.heap.size W (Nat.le_of_lt h.2.2.1) h.2.1 hn hi hx.2.1
  have HRDY : Hid (∀ W, InRc w w.heap.size r A cap W → Calls Try.prog 52 #[bfV r.buf.next (.slice A r.buf.chs.length cap)] W fun e w' => e = .returned (.int .i64 (rdyB r.buf : Nat)) ∧ Below W.heap.size W w') := Lib.hid fun W h => sready r.buf A cap w.heap.size W (Nat.le_of_lt h.2.2.1) h.2.1 hn hi hx.2.1
  have HQH : Hid (∀ W, InRc w w.heap.size r A cap W → Calls Try.prog 47 #[.int .i64 r.hi] W fun e w' => e = .returned (.bool (decide (0 ≤ r.hi ∧ r.hi ≤ 4611686018427387903))) ∧ Below W.heap.size W w') := Lib.hid fun W _ => squicW r.hi W
  have HQC : Hid (∀ W, InRc w w.heap.size r A cap W → Calls Try.prog 47 #[.int .i64 r.code] W fun e w' => e = .returned (.bool (decide (0 ≤ r.code ∧ r.code ≤ 4611686018427387903))) ∧ Below W.heap.size W w') := Lib.hid fun W _ => squicW r.code W
  have HV : Hid (okRc r ↔ stRc r) := Lib.hid ⟨fun h => h.2, fun h => ⟨hh, h⟩⟩
  have hfull : ¬ fullRc r := fun h => h.1 hf
  rw [decide_eq_true h0] at HISB
  rw [decide_eq_true h1] at HQH
  have d2 : decide (r.hi < endB r.buf) = false := decide_eq_false h2
  rw [decide_eq_true h3] at HQC
  have f0 : (r.fin == -1) = true := by simpa using hf
  have f1 : (r.fin != -1) = false := by simpa using hf
  have d6 : decide (4611686018427387903 < r.fin) = false := decide_eq_false (by omega)
  have d7 : decide (r.fin < -1) = false := decide_eq_false (by omega)
  have HFU := Lib.hid hfull
  have HFI := Lib.hid hf
  clear hh hfull h0 h1 h2 h3 hf
  clear hr hi hx hn
  go_enter Try.func19, Try.ntmps19
  go_wp2
  refine wp_region_held_drew (S := (InRc w w.heap.size r A cap)) (by kernel_rfl) HH.out (fun hHeld => ?_)
  refine wpAnyH_take (i := 0) (v := ?_) rfl (by kernel_rfl) (by kernel_rfl) (by kernel_rfl) (fun _ _ _ h => h) (Or.inl ⟨by rfl, ?_⟩) hHeld ?_
  rotate_left
  · (intro wx hSx; obtain ⟨⟨a0, a1, a2, a3, a4, a5⟩, _⟩ : (_ ∧ _) ∧ True := ⟨hSx.1, trivial⟩; go_simp; (try with_reducible rfl))
  (try simp only [Act.put, List.getElem_toArray, List.getElem_cons_zero, List.setIfInBounds_toArray, List.set_cons_succ, List.set_cons_zero])
  refine wpAnyH_take (i := 1) (v := ?_) rfl (by kernel_rfl) (by kernel_rfl) (by kernel_rfl) (fun _ _ _ h => h) (Or.inl ⟨by rfl, ?_⟩) hHeld ?_
  rotate_left
  · (intro wx hSx; obtain ⟨⟨a0, a1, a2, a3, a4, a5⟩, _⟩ : (_ ∧ _) ∧ True := ⟨hSx.1, trivial⟩; go_simp; (try with_reducible rfl))
  (try simp only [Act.put, List.getElem_toArray, List.getElem_cons_succ, List.getElem_cons_zero, List.setIfInBounds_toArray, List.set_cons_succ, List.set_cons_zero])
  refine wpAnyH_ready (rs := [2]) (by kernel_rfl) (by simp) ?_
  refine AllReadyH.cons rfl (fun K hK => ?_) AllReadyH.nil
  rw [if_pos (by rfl)]
  go_simp
  refine (HISB.out _ HH.out).mono ?_
  rintro e w1 ⟨rfl, hb1⟩
  have HH := Lib.hid (HH.out.next hb1)
  (try simp only [])
  refine hK.out _ _ HH.out (fun hHeld => ?_)
  clear hb1
  clear hK K
  (try simp only [Act.put, List.getElem_toArray, List.getElem_cons_succ, List.getElem_cons_zero, List.setIfInBounds_toArray, List.set_cons_succ, List.set_cons_zero])
  refine wpAnyH_take (i := 3) (v := ?_) rfl (by kernel_rfl) (by kernel_rfl) (by kernel_rfl) (fun _ _ _ h => h) (Or.inl ⟨by rfl, ?_⟩) hHeld ?_
  rotate_left
  · (intro wx hSx; obtain ⟨⟨a0, a1, a2, a3, a4, a5⟩, _⟩ : (_ ∧ _) ∧ True := ⟨hSx.1, trivial⟩; go_simp; (try with_reducible rfl))
  (try simp only [Act.put, List.getElem_toArray, List.getElem_cons_succ, List.getElem_cons_zero, List.setIfInBounds_toArray, List.set_cons_succ, List.set_cons_zero])
  refine wpAnyH_take (i := 4) (v := ?_) rfl (by kernel_rfl) (by kernel_rfl) (by kernel_rfl) (fun _ _ _ h => h) (Or.inl ⟨by rfl, ?_⟩) hHeld ?_
  rotate_left
  · (intro wx hSx; obtain ⟨⟨a0, a1, a2, a3, a4, a5⟩, _⟩ : (_ ∧ _) ∧ True := ⟨hSx.1, trivial⟩; go_simp; (try with_reducible rfl))
  (try simp only [Act.put, List.getElem_toArray, List.getElem_cons_succ, List.getElem_cons_zero, List.setIfInBounds_toArray, List.set_cons_succ, List.set_cons_zero])
  refine wpAnyH_take (i := 5) (v := ?_) rfl (by kernel_rfl) (by kernel_rfl) (by kernel_rfl) (fun _ _ _ h => h) (Or.inl ⟨by rfl, ?_⟩) hHeld ?_
  rotate_left
  · (intro wx hSx; obtain ⟨⟨a0, a1, a2, a3, a4, a5⟩, _⟩ : (_ ∧ _) ∧ True := ⟨hSx.1, trivial⟩; go_simp; (try with_reducible rfl))
  (try simp only [Act.put, List.getElem_toArray, List.getElem_cons_succ, List.getElem_cons_zero, List.setIfInBounds_toArray, List.set_cons_succ, List.set_cons_zero])
  refine wpAnyH_take (i := 6) (v := ?_) rfl (by kernel_rfl) (by kernel_rfl) (by kernel_rfl) (fun _ _ _ h => h) (Or.inl ⟨by rfl, ?_⟩) hHeld ?_
  rotate_left
  · (intro wx hSx; obtain ⟨⟨a0, a1, a2, a3, a4, a5⟩, _⟩ : (_ ∧ _) ∧ True := ⟨hSx.1, trivial⟩; go_simp; (try with_reducible rfl))
  (try simp only [Act.put, List.getElem_toArray, List.getElem_cons_succ, List.getElem_cons_zero, List.setIfInBounds_toArray, List.set_cons_succ, List.set_cons_zero])
  refine wpAnyH_ready (rs := [7]) (by kernel_rfl) (by simp) ?_
  refine AllReadyH.cons rfl (fun K hK => ?_) AllReadyH.nil
  rw [if_pos (by rfl)]
  go_simp
  refine (HQH.out _ HH.out).mono ?_
  rintro e w1 ⟨rfl, hb1⟩
  have HH := Lib.hid (HH.out.next hb1)
  (try simp only [])
  refine hK.out _ _ HH.out (fun hHeld => ?_)
  clear hb1
  clear hK K
  (try simp only [Act.put, List.getElem_toArray, List.getElem_cons_succ, List.getElem_cons_zero, List.setIfInBounds_toArray, List.set_cons_succ, List.set_cons_zero])
  refine wpAnyH_take (i := 8) (v := ?_) rfl (by kernel_rfl) (by kernel_rfl) (by kernel_rfl) (fun _ _ _ h => h) (Or.inl ⟨by rfl, ?_⟩) hHeld ?_
  rotate_left
  · (intro wx hSx; obtain ⟨⟨a0, a1, a2, a3, a4, a5⟩, _⟩ : (_ ∧ _) ∧ True := ⟨hSx.1, trivial⟩; go_simp; (try with_reducible rfl))
  (try simp only [Act.put, List.getElem_toArray, List.getElem_cons_succ, List.getElem_cons_zero, List.setIfInBounds_toArray, List.set_cons_succ, List.set_cons_zero])
  refine wpAnyH_take (i := 9) (v := ?_) rfl (by kernel_rfl) (by kernel_rfl) (by kernel_rfl) (fun _ _ _ h => h) (Or.inl ⟨by rfl, ?_⟩) hHeld ?_
  rotate_left
  · (intro wx hSx; obtain ⟨⟨a0, a1, a2, a3, a4, a5⟩, _⟩ : (_ ∧ _) ∧ True := ⟨hSx.1, trivial⟩; go_simp; (try with_reducible rfl))
  (try simp only [Act.put, List.getElem_toArray, List.getElem_cons_succ, List.getElem_cons_zero, List.setIfInBounds_toArray, List.set_cons_succ, List.set_cons_zero])
  refine wpAnyH_take (i := 10) (v := ?_) rfl (by kernel_rfl) (by kernel_rfl) (by kernel_rfl) (fun _ _ _ h => h) (Or.inl ⟨by rfl, ?_⟩) hHeld ?_
  rotate_left
  · (intro wx hSx; obtain ⟨⟨a0, a1, a2, a3, a4, a5⟩, _⟩ : (_ ∧ _) ∧ True := ⟨hSx.1, trivial⟩; go_simp; (try with_reducible rfl))
  (try simp only [Act.put, List.getElem_toArray, List.getElem_cons_succ, List.getElem_cons_zero, List.setIfInBounds_toArray, List.set_cons_succ, List.set_cons_zero])
  refine wpAnyH_take (i := 11) (v := ?_) rfl (by kernel_rfl) (by kernel_rfl) (by kernel_rfl) (fun _ _ _ h => h) (Or.inl ⟨by rfl, ?_⟩) hHeld ?_
  rotate_left
  · (intro wx hSx; obtain ⟨⟨a0, a1, a2, a3, a4, a5⟩, _⟩ : (_ ∧ _) ∧ True := ⟨hSx.1, trivial⟩; go_simp; (try with_reducible rfl))
  (try simp only [Act.put, List.getElem_toArray, List.getElem_cons_succ, List.getElem_cons_zero, List.setIfInBounds_toArray, List.set_cons_succ, List.set_cons_zero])
  refine wpAnyH_take (i := 12) (v := ?_) rfl (by kernel_rfl) (by kernel_rfl) (by kernel_rfl) (fun _ _ _ h => h) (Or.inl ⟨by rfl, ?_⟩) hHeld ?_
  rotate_left
  · (intro wx hSx; obtain ⟨⟨a0, a1, a2, a3, a4, a5⟩, _⟩ : (_ ∧ _) ∧ True := ⟨hSx.1, trivial⟩; go_simp; (try with_reducible rfl))
  (try simp only [Act.put, List.getElem_toArray, List.getElem_cons_succ, List.getElem_cons_zero, List.setIfInBounds_toArray, List.set_cons_succ, List.set_cons_zero])
  refine wpAnyH_take (i := 14) (v := ?_) rfl (by kernel_rfl) (by kernel_rfl) (by kernel_rfl) (fun _ _ _ h => h) (Or.inl ⟨by rfl, ?_⟩) hHeld ?_
  rotate_left
  · (intro wx hSx; obtain ⟨⟨a0, a1, a2, a3, a4, a5⟩, _⟩ : (_ ∧ _) ∧ True := ⟨hSx.1, trivial⟩; go_simp; (try with_reducible rfl))
  (try simp only [Act.put, List.getElem_toArray, List.getElem_cons_succ, List.getElem_cons_zero, List.setIfInBounds_toArray, List.set_cons_succ, List.set_cons_zero])
  refine wpAnyH_take (i := 15) (v := ?_) rfl (by kernel_rfl) (by kernel_rfl) (by kernel_rfl) (fun _ _ _ h => h) (Or.inl ⟨by rfl, ?_⟩) hHeld ?_
  rotate_left
  · (intro wx hSx; obtain ⟨⟨a0, a1, a2, a3, a4, a5⟩, _⟩ : (_ ∧ _) ∧ True := ⟨hSx.1, trivial⟩; go_simp; (try with_reducible rfl))
  (try simp only [Act.put, List.getElem_toArray, List.getElem_cons_succ, List.getElem_cons_zero, List.setIfInBounds_toArray, List.set_cons_succ, List.set_cons_zero])
  refine wpAnyH_ready (rs := [13]) (by kernel_rfl) (by simp) ?_
  refine AllReadyH.cons rfl (fun K hK => ?_) AllReadyH.nil
  rw [if_pos (by rfl)]
  go_simp
  refine (HEND.out _ HH.out).mono ?_
  rintro e w1 ⟨rfl, hb1⟩
  have HH := Lib.hid (HH.out.next hb1)
  (try simp only [])
  refine hK.out _ _ HH.out (fun hHeld => ?_)
  clear hb1
  clear hK K
  (try simp only [Act.put, List.getElem_toArray, List.getElem_cons_succ, List.getElem_cons_zero, List.setIfInBounds_toArray, List.set_cons_succ, List.set_cons_zero])
  refine wpAnyH_take (i := 16) (v := ?_) rfl (by kernel_rfl) (by kernel_rfl) (by kernel_rfl) (fun _ _ _ h => h) (Or.inl ⟨by rfl, ?_⟩) hHeld ?_
  rotate_left
  · (intro wx hSx; obtain ⟨⟨a0, a1, a2, a3, a4, a5⟩, _⟩ : (_ ∧ _) ∧ True := ⟨hSx.1, trivial⟩; go_simp; (try with_reducible rfl))
  (try simp only [Act.put, List.getElem_toArray, List.getElem_cons_succ, List.getElem_cons_zero, List.setIfInBounds_toArray, List.set_cons_succ, List.set_cons_zero])
  refine wpAnyH_take (i := 17) (v := ?_) rfl (by kernel_rfl) (by kernel_rfl) (by kernel_rfl) (fun _ _ _ h => h) (Or.inl ⟨by rfl, ?_⟩) hHeld ?_
  rotate_left
  · (intro wx hSx; obtain ⟨⟨a0, a1, a2, a3, a4, a5⟩, _⟩ : (_ ∧ _) ∧ True := ⟨hSx.1, trivial⟩; go_simp; (try with_reducible rfl))
  (try simp only [Act.put, List.getElem_toArray, List.getElem_cons_succ, List.getElem_cons_zero, List.setIfInBounds_toArray, List.set_cons_succ, List.set_cons_zero])
  refine wpAnyH_take (i := 18) (v := ?_) rfl (by kernel_rfl) (by kernel_rfl) (by kernel_rfl) (fun _ _ _ h => h) (Or.inl ⟨by rfl, ?_⟩) hHeld ?_
  rotate_left
  · (intro wx hSx; obtain ⟨⟨a0, a1, a2, a3, a4, a5⟩, _⟩ : (_ ∧ _) ∧ True := ⟨hSx.1, trivial⟩; go_simp; (try with_reducible rfl))
  (try simp only [Act.put, List.getElem_toArray, List.getElem_cons_succ, List.getElem_cons_zero, List.setIfInBounds_toArray, List.set_cons_succ, List.set_cons_zero])
  refine wpAnyH_take (i := 19) (v := ?_) rfl (by kernel_rfl) (by kernel_rfl) (by kernel_rfl) (fun _ _ _ h => h) (Or.inl ⟨by rfl, ?_⟩) hHeld ?_
  rotate_left
  · (intro wx hSx; obtain ⟨⟨a0, a1, a2, a3, a4, a5⟩, _⟩ : (_ ∧ _) ∧ True := ⟨hSx.1, trivial⟩; go_simp; (try with_reducible rfl))
  (try simp only [Act.put, List.getElem_toArray, List.getElem_cons_succ, List.getElem_cons_zero, List.setIfInBounds_toArray, List.set_cons_succ, List.set_cons_zero])
  refine wpAnyH_take (i := 20) (v := ?_) rfl (by kernel_rfl) (by kernel_rfl) (by kernel_rfl) (fun _ _ _ h => h) (Or.inl ⟨by rfl, ?_⟩) hHeld ?_
  rotate_left
  · (intro wx hSx; obtain ⟨⟨a0, a1, a2, a3, a4, a5⟩, _⟩ : (_ ∧ _) ∧ True := ⟨hSx.1, trivial⟩; go_simp; (try with_reducible rfl))
  (try simp only [Act.put, List.getElem_toArray, List.getElem_cons_succ, List.getElem_cons_zero, List.setIfInBounds_toArray, List.set_cons_succ, List.set_cons_zero])
  refine wpAnyH_ready (rs := [21]) (by kernel_rfl) (by simp) ?_
  refine AllReadyH.cons rfl (fun K hK => ?_) AllReadyH.nil
  rw [if_pos (by rfl)]
  go_simp
  refine (HQC.out _ HH.out).mono ?_
  rintro e w1 ⟨rfl, hb1⟩
  have HH := Lib.hid (HH.out.next hb1)
  (try simp only [])
  refine hK.out _ _ HH.out (fun hHeld => ?_)
  clear hb1
  clear hK K
  (try simp only [Act.put, List.getElem_toArray, List.getElem_cons_succ, List.getElem_cons_zero, List.setIfInBounds_toArray, List.set_cons_succ, List.set_cons_zero])
  refine wpAnyH_take (i := 22) (v := ?_) rfl (by kernel_rfl) (by kernel_rfl) (by kernel_rfl) (fun _ _ _ h => h) (Or.inl ⟨by rfl, ?_⟩) hHeld ?_
  rotate_left
  · (intro wx hSx; obtain ⟨⟨a0, a1, a2, a3, a4, a5⟩, _⟩ : (_ ∧ _) ∧ True := ⟨hSx.1, trivial⟩; go_simp; (try with_reducible rfl))
  (try simp only [Act.put, List.getElem_toArray, List.getElem_cons_succ, List.getElem_cons_zero, List.setIfInBounds_toArray, List.set_cons_succ, List.set_cons_zero])
  refine wpAnyH_take (i := 23) (v := ?_) rfl (by kernel_rfl) (by kernel_rfl) (by kernel_rfl) (fun _ _ _ h => h) (Or.inl ⟨by rfl, ?_⟩) hHeld ?_
  rotate_left
  · (intro wx hSx; obtain ⟨⟨a0, a1, a2, a3, a4, a5⟩, _⟩ : (_ ∧ _) ∧ True := ⟨hSx.1, trivial⟩; go_simp; (try with_reducible rfl))
  (try simp only [Act.put, List.getElem_toArray, List.getElem_cons_succ, List.getElem_cons_zero, List.setIfInBounds_toArray, List.set_cons_succ, List.set_cons_zero])
  refine wpAnyH_take (i := 24) (v := ?_) rfl (by kernel_rfl) (by kernel_rfl) (by kernel_rfl) (fun _ _ _ h => h) (Or.inl ⟨by rfl, ?_⟩) hHeld ?_
  rotate_left
  · (intro wx hSx; obtain ⟨⟨a0, a1, a2, a3, a4, a5⟩, _⟩ : (_ ∧ _) ∧ True := ⟨hSx.1, trivial⟩; go_simp; (try with_reducible rfl))
  (try simp only [Act.put, List.getElem_toArray, List.getElem_cons_succ, List.getElem_cons_zero, List.setIfInBounds_toArray, List.set_cons_succ, List.set_cons_zero])
  refine wpAnyH_take (i := 25) (v := ?_) rfl (by kernel_rfl) (by kernel_rfl) (by kernel_rfl) (fun _ _ _ h => h) (Or.inl ⟨by rfl, ?_⟩) hHeld ?_
  rotate_left
  · (intro wx hSx; obtain ⟨⟨a0, a1, a2, a3, a4, a5⟩, _⟩ : (_ ∧ _) ∧ True := ⟨hSx.1, trivial⟩; go_simp; (try with_reducible rfl))
  (try simp only [Act.put, List.getElem_toArray, List.getElem_cons_succ, List.getElem_cons_zero, List.setIfInBounds_toArray, List.set_cons_succ, List.set_cons_zero])
  refine wpAnyH_take (i := 26) (v := ?_) rfl (by kernel_rfl) (by kernel_rfl) (by kernel_rfl) (fun _ _ _ h => h) (Or.inl ⟨by rfl, ?_⟩) hHeld ?_
  rotate_left
  · (intro wx hSx; obtain ⟨⟨a0, a1, a2, a3, a4, a5⟩, _⟩ : (_ ∧ _) ∧ True := ⟨hSx.1, trivial⟩; go_simp; (try with_reducible rfl))
  (try simp only [Act.put, List.getElem_toArray, List.getElem_cons_succ, List.getElem_cons_zero, List.setIfInBounds_toArray, List.set_cons_succ, List.set_cons_zero])
  refine wpAnyH_take (i := 27) (v := ?_) rfl (by kernel_rfl) (by kernel_rfl) (by kernel_rfl) (fun _ _ _ h => h) (Or.inl ⟨by rfl, ?_⟩) hHeld ?_
  rotate_left
  · (intro wx hSx; obtain ⟨⟨a0, a1, a2, a3, a4, a5⟩, _⟩ : (_ ∧ _) ∧ True := ⟨hSx.1, trivial⟩; go_simp; (try with_reducible rfl))
  (try simp only [Act.put, List.getElem_toArray, List.getElem_cons_succ, List.getElem_cons_zero, List.setIfInBounds_toArray, List.set_cons_succ, List.set_cons_zero])
  refine wpAnyH_take (i := 28) (v := ?_) rfl (by kernel_rfl) (by kernel_rfl) (by kernel_rfl) (fun _ _ _ h => h) (Or.inl ⟨by rfl, ?_⟩) hHeld ?_
  rotate_left
  · (intro wx hSx; obtain ⟨⟨a0, a1, a2, a3, a4, a5⟩, _⟩ : (_ ∧ _) ∧ True := ⟨hSx.1, trivial⟩; go_simp; (try with_reducible rfl))
  (try simp only [Act.put, List.getElem_toArray, List.getElem_cons_succ, List.getElem_cons_zero, List.setIfInBounds_toArray, List.set_cons_succ, List.set_cons_zero])
  refine wpAnyH_take (i := 29) (v := undef) rfl (by kernel_rfl) (by kernel_rfl) (by kernel_rfl) (fun _ _ _ h => h) (Or.inr ⟨by rfl, rfl⟩) hHeld ?_
  (try simp only [Act.put, List.getElem_toArray, List.getElem_cons_succ, List.getElem_cons_zero, List.setIfInBounds_toArray, List.set_cons_succ, List.set_cons_zero])
  refine wpAnyH_take (i := 30) (v := undef) rfl (by kernel_rfl) (by kernel_rfl) (by kernel_rfl) (fun _ _ _ h => h) (Or.inr ⟨by rfl, rfl⟩) hHeld ?_
  (try simp only [Act.put, List.getElem_toArray, List.getElem_cons_succ, List.getElem_cons_zero, List.setIfInBounds_toArray, List.set_cons_succ, List.set_cons_zero])
  refine wpAnyH_take (i := 31) (v := undef) rfl (by kernel_rfl) (by kernel_rfl) (by kernel_rfl) (fun _ _ _ h => h) (Or.inr ⟨by rfl, rfl⟩) hHeld ?_
  (try simp only [Act.put, List.getElem_toArray, List.getElem_cons_succ, List.getElem_cons_zero, List.setIfInBounds_toArray, List.set_cons_succ, List.set_cons_zero])
  refine wpAnyH_take (i := 32) (v := undef) rfl (by kernel_rfl) (by kernel_rfl) (by kernel_rfl) (fun _ _ _ h => h) (Or.inr ⟨by rfl, rfl⟩) hHeld ?_
  (try simp only [Act.put, List.getElem_toArray, List.getElem_cons_succ, List.getElem_cons_zero, List.setIfInBounds_toArray, List.set_cons_succ, List.set_cons_zero])
  refine wpAnyH_take (i := 33) (v := undef) rfl (by kernel_rfl) (by kernel_rfl) (by kernel_rfl) (fun _ _ _ h => h) (Or.inr ⟨by rfl, rfl⟩) hHeld ?_
  (try simp only [Act.put, List.getElem_toArray, List.getElem_cons_succ, List.getElem_cons_zero, List.setIfInBounds_toArray, List.set_cons_succ, List.set_cons_zero])
  refine wpAnyH_take (i := 34) (v := ?_) rfl (by kernel_rfl) (by kernel_rfl) (by kernel_rfl) (fun _ _ _ h => h) (Or.inl ⟨by rfl, ?_⟩) hHeld ?_
  rotate_left
  · (intro wx hSx; obtain ⟨⟨a0, a1, a2, a3, a4, a5⟩, _⟩ : (_ ∧ _) ∧ True := ⟨hSx.1, trivial⟩; go_simp; (try with_reducible rfl))
  (try simp only [Act.put, List.getElem_toArray, List.getElem_cons_succ, List.getElem_cons_zero, List.setIfInBounds_toArray, List.set_cons_succ, List.set_cons_zero])
  refine wpAnyH_take (i := 35) (v := ?_) rfl (by kernel_rfl) (by kernel_rfl) (by kernel_rfl) (fun _ _ _ h => h) (Or.inl ⟨by rfl, ?_⟩) hHeld ?_
  rotate_left
  · (intro wx hSx; obtain ⟨⟨a0, a1, a2, a3, a4, a5⟩, _⟩ : (_ ∧ _) ∧ True := ⟨hSx.1, trivial⟩; go_simp; (try with_reducible rfl))
  (try simp only [Act.put, List.getElem_toArray, List.getElem_cons_succ, List.getElem_cons_zero, List.setIfInBounds_toArray, List.set_cons_succ, List.set_cons_zero])
  refine wpAnyH_take (i := 36) (v := ?_) rfl (by kernel_rfl) (by kernel_rfl) (by kernel_rfl) (fun _ _ _ h => h) (Or.inl ⟨by rfl, ?_⟩) hHeld ?_
  rotate_left
  · (intro wx hSx; obtain ⟨⟨a0, a1, a2, a3, a4, a5⟩, _⟩ : (_ ∧ _) ∧ True := ⟨hSx.1, trivial⟩; go_simp; (try with_reducible rfl))
  (try simp only [Act.put, List.getElem_toArray, List.getElem_cons_succ, List.getElem_cons_zero, List.setIfInBounds_toArray, List.set_cons_succ, List.set_cons_zero])
  refine wpAnyH_take (i := 37) (v := ?_) rfl (by kernel_rfl) (by kernel_rfl) (by kernel_rfl) (fun _ _ _ h => h) (Or.inl ⟨by rfl, ?_⟩) hHeld ?_
  rotate_left
  · (intro wx hSx; obtain ⟨⟨a0, a1, a2, a3, a4, a5⟩, _⟩ : (_ ∧ _) ∧ True := ⟨hSx.1, trivial⟩; go_simp; (try with_reducible rfl))
  (try simp only [Act.put, List.getElem_toArray, List.getElem_cons_succ, List.getElem_cons_zero, List.setIfInBounds_toArray, List.set_cons_succ, List.set_cons_zero])
  refine wpAnyH_take (i := 38) (v := ?_) rfl (by kernel_rfl) (by kernel_rfl) (by kernel_rfl) (fun _ _ _ h => h) (Or.inl ⟨by rfl, ?_⟩) hHeld ?_
  rotate_left
  · (intro wx hSx; obtain ⟨⟨a0, a1, a2, a3, a4, a5⟩, _⟩ : (_ ∧ _) ∧ True := ⟨hSx.1, trivial⟩; go_simp; (try with_reducible rfl))
  (try simp only [Act.put, List.getElem_toArray, List.getElem_cons_succ, List.getElem_cons_zero, List.setIfInBounds_toArray, List.set_cons_succ, List.set_cons_zero])
  refine wpAnyH_take (i := 39) (v := ?_) rfl (by kernel_rfl) (by kernel_rfl) (by kernel_rfl) (fun _ _ _ h => h) (Or.inl ⟨by rfl, ?_⟩) hHeld ?_
  rotate_left
  · (intro wx hSx; obtain ⟨⟨a0, a1, a2, a3, a4, a5⟩, _⟩ : (_ ∧ _) ∧ True := ⟨hSx.1, trivial⟩; go_simp; (try with_reducible rfl))
  (try simp only [Act.put, List.getElem_toArray, List.getElem_cons_succ, List.getElem_cons_zero, List.setIfInBounds_toArray, List.set_cons_succ, List.set_cons_zero])
  refine wpAnyH_take (i := 40) (v := ?_) rfl (by kernel_rfl) (by kernel_rfl) (by kernel_rfl) (fun _ _ _ h => h) (Or.inl ⟨by rfl, ?_⟩) hHeld ?_
  rotate_left
  · (intro wx hSx; obtain ⟨⟨a0, a1, a2, a3, a4, a5⟩, _⟩ : (_ ∧ _) ∧ True := ⟨hSx.1, trivial⟩; go_simp; (try with_reducible rfl))
  (try simp only [Act.put, List.getElem_toArray, List.getElem_cons_succ, List.getElem_cons_zero, List.setIfInBounds_toArray, List.set_cons_succ, List.set_cons_zero])
  refine wpAnyH_take (i := 41) (v := ?_) rfl (by kernel_rfl) (by kernel_rfl) (by kernel_rfl) (fun _ _ _ h => h) (Or.inl ⟨by rfl, ?_⟩) hHeld ?_
  rotate_left
  · (intro wx hSx; obtain ⟨⟨a0, a1, a2, a3, a4, a5⟩, _⟩ : (_ ∧ _) ∧ True := ⟨hSx.1, trivial⟩; go_simp; (try with_reducible rfl))
  (try simp only [Act.put, List.getElem_toArray, List.getElem_cons_succ, List.getElem_cons_zero, List.setIfInBounds_toArray, List.set_cons_succ, List.set_cons_zero])
  refine wpAnyH_take (i := 42) (v := ?_) rfl (by kernel_rfl) (by kernel_rfl) (by kernel_rfl) (fun _ _ _ h => h) (Or.inl ⟨by rfl, ?_⟩) hHeld ?_
  rotate_left
  · (intro wx hSx; obtain ⟨⟨a0, a1, a2, a3, a4, a5⟩, _⟩ : (_ ∧ _) ∧ True := ⟨hSx.1, trivial⟩; go_simp; (try with_reducible rfl))
  (try simp only [Act.put, List.getElem_toArray, List.getElem_cons_succ, List.getElem_cons_zero, List.setIfInBounds_toArray, List.set_cons_succ, List.set_cons_zero])
  refine wpAnyH_take (i := 43) (v := ?_) rfl (by kernel_rfl) (by kernel_rfl) (by kernel_rfl) (fun _ _ _ h => h) (Or.inl ⟨by rfl, ?_⟩) hHeld ?_
  rotate_left
  · (intro wx hSx; obtain ⟨⟨a0, a1, a2, a3, a4, a5⟩, _⟩ : (_ ∧ _) ∧ True := ⟨hSx.1, trivial⟩; go_simp; (try with_reducible rfl))
  (try simp only [Act.put, List.getElem_toArray, List.getElem_cons_succ, List.getElem_cons_zero, List.setIfInBounds_toArray, List.set_cons_succ, List.set_cons_zero])
  refine wpAnyH_take (i := 44) (v := ?_) rfl (by kernel_rfl) (by kernel_rfl) (by kernel_rfl) (fun _ _ _ h => h) (Or.inl ⟨by rfl, ?_⟩) hHeld ?_
  rotate_left
  · (intro wx hSx; obtain ⟨⟨a0, a1, a2, a3, a4, a5⟩, _⟩ : (_ ∧ _) ∧ True := ⟨hSx.1, trivial⟩; go_simp; (try with_reducible rfl))
  (try simp only [Act.put, List.getElem_toArray, List.getElem_cons_succ, List.getElem_cons_zero, List.setIfInBounds_toArray, List.set_cons_succ, List.set_cons_zero])
  refine wpAnyH_take (i := 45) (v := ?_) rfl (by kernel_rfl) (by kernel_rfl) (by kernel_rfl) (fun _ _ _ h => h) (Or.inl ⟨by rfl, ?_⟩) hHeld ?_
  rotate_left
  · (intro wx hSx; obtain ⟨⟨a0, a1, a2, a3, a4, a5⟩, _⟩ : (_ ∧ _) ∧ True := ⟨hSx.1, trivial⟩; go_simp; (try with_reducible rfl))
  (try simp only [Act.put, List.getElem_toArray, List.getElem_cons_succ, List.getElem_cons_zero, List.setIfInBounds_toArray, List.set_cons_succ, List.set_cons_zero])
  refine wpAnyH_done (by kernel_rfl) ?_ _
  clear hHeld
  go_upto_region 3 with fail
  have HH := Lib.hid HH.out.drew
  refine wp_region_held_drew (S := (InRc w w.heap.size r A cap)) (by kernel_rfl) HH.out (fun hHeld => ?_)
  refine wpAnyH_take (i := 0) (v := ?_) rfl (by kernel_rfl) (by kernel_rfl) (by kernel_rfl) (fun _ _ _ h => h) (Or.inl ⟨by rfl, ?_⟩) hHeld ?_
  rotate_left
  · (intro wx hSx; obtain ⟨⟨a0, a1, a2, a3, a4, a5⟩, _⟩ : (_ ∧ _) ∧ True := ⟨hSx.1, trivial⟩; go_simp; (try with_reducible rfl))
  (try simp only [Act.put, List.getElem_toArray, List.getElem_cons_zero, List.setIfInBounds_toArray, List.set_cons_succ, List.set_cons_zero])
  refine wpAnyH_take (i := 1) (v := ?_) rfl (by kernel_rfl) (by kernel_rfl) (by kernel_rfl) (fun _ _ _ h => h) (Or.inl ⟨by rfl, ?_⟩) hHeld ?_
  rotate_left
  · (intro wx hSx; obtain ⟨⟨a0, a1, a2, a3, a4, a5⟩, _⟩ : (_ ∧ _) ∧ True := ⟨hSx.1, trivial⟩; go_simp; (try with_reducible rfl))
  (try simp only [Act.put, List.getElem_toArray, List.getElem_cons_succ, List.getElem_cons_zero, List.setIfInBounds_toArray, List.set_cons_succ, List.set_cons_zero])
  refine wpAnyH_take (i := 2) (v := ?_) rfl (by kernel_rfl) (by kernel_rfl) (by kernel_rfl) (fun _ _ _ h => h) (Or.inl ⟨by rfl, ?_⟩) hHeld ?_
  rotate_left
  · (intro wx hSx; obtain ⟨⟨a0, a1, a2, a3, a4, a5⟩, _⟩ : (_ ∧ _) ∧ True := ⟨hSx.1, trivial⟩; go_simp; (try with_reducible rfl))
  (try simp only [Act.put, List.getElem_toArray, List.getElem_cons_succ, List.getElem_cons_zero, List.setIfInBounds_toArray, List.set_cons_succ, List.set_cons_zero])
  refine wpAnyH_take (i := 3) (v := ?_) rfl (by kernel_rfl) (by kernel_rfl) (by kernel_rfl) (fun _ _ _ h => h) (Or.inl ⟨by rfl, ?_⟩) hHeld ?_
  rotate_left
  · (intro wx hSx; obtain ⟨⟨a0, a1, a2, a3, a4, a5⟩, _⟩ : (_ ∧ _) ∧ True := ⟨hSx.1, trivial⟩; go_simp; (try with_reducible rfl))
  (try simp only [Act.put, List.getElem_toArray, List.getElem_cons_succ, List.getElem_cons_zero, List.setIfInBounds_toArray, List.set_cons_succ, List.set_cons_zero])
  refine wpAnyH_take (i := 4) (v := undef) rfl (by kernel_rfl) (by kernel_rfl) (by kernel_rfl) (fun _ _ _ h => h) (Or.inr ⟨by rfl, rfl⟩) hHeld ?_
  (try simp only [Act.put, List.getElem_toArray, List.getElem_cons_succ, List.getElem_cons_zero, List.setIfInBounds_toArray, List.set_cons_succ, List.set_cons_zero])
  refine wpAnyH_take (i := 5) (v := undef) rfl (by kernel_rfl) (by kernel_rfl) (by kernel_rfl) (fun _ _ _ h => h) (Or.inr ⟨by rfl, rfl⟩) hHeld ?_
  (try simp only [Act.put, List.getElem_toArray, List.getElem_cons_succ, List.getElem_cons_zero, List.setIfInBounds_toArray, List.set_cons_succ, List.set_cons_zero])
  refine wpAnyH_take (i := 6) (v := undef) rfl (by kernel_rfl) (by kernel_rfl) (by kernel_rfl) (fun _ _ _ h => h) (Or.inr ⟨by rfl, rfl⟩) hHeld ?_
  (try simp only [Act.put, List.getElem_toArray, List.getElem_cons_succ, List.getElem_cons_zero, List.setIfInBounds_toArray, List.set_cons_succ, List.set_cons_zero])
  refine wpAnyH_take (i := 7) (v := undef) rfl (by kernel_rfl) (by kernel_rfl) (by kernel_rfl) (fun _ _ _ h => h) (Or.inr ⟨by rfl, rfl⟩) hHeld ?_
  (try simp only [Act.put, List.getElem_toArray, List.getElem_cons_succ, List.getElem_cons_zero, List.setIfInBounds_toArray, List.set_cons_succ, List.set_cons_zero])
  refine wpAnyH_take (i := 8) (v := undef) rfl (by kernel_rfl) (by kernel_rfl) (by kernel_rfl) (fun _ _ _ h => h) (Or.inr ⟨by rfl, rfl⟩) hHeld ?_
  (try simp only [Act.put, List.getElem_toArray, List.getElem_cons_succ, List.getElem_cons_zero, List.setIfInBounds_toArray, List.set_cons_succ, List.set_cons_zero])
  refine wpAnyH_take (i := 9) (v := undef) rfl (by kernel_rfl) (by kernel_rfl) (by kernel_rfl) (fun _ _ _ h => h) (Or.inr ⟨by rfl, rfl⟩) hHeld ?_
  (try simp only [Act.put, List.getElem_toArray, List.getElem_cons_succ, List.getElem_cons_zero, List.setIfInBounds_toArray, List.set_cons_succ, List.set_cons_zero])
  refine wpAnyH_take (i := 10) (v := undef) rfl (by kernel_rfl) (by kernel_rfl) (by kernel_rfl) (fun _ _ _ h => h) (Or.inr ⟨by rfl, rfl⟩) hHeld ?_
  (try simp only [Act.put, List.getElem_toArray, List.getElem_cons_succ, List.getElem_cons_zero, List.setIfInBounds_toArray, List.set_cons_succ, List.set_cons_zero])
  refine wpAnyH_take (i := 11) (v := undef) rfl (by kernel_rfl) (by kernel_rfl) (by kernel_rfl) (fun _ _ _ h => h) (Or.inr ⟨by rfl, rfl⟩) hHeld ?_
  (try simp only [Act.put, List.getElem_toArray, List.getElem_cons_succ, List.getElem_cons_zero, List.setIfInBounds_toArray, List.set_cons_succ, List.set_cons_zero])
  refine wpAnyH_take (i := 12) (v := undef) rfl (by kernel_rfl) (by kernel_rfl) (by kernel_rfl) (fun _ _ _ h => h) (Or.inr ⟨by rfl, rfl⟩) hHeld ?_
  (try simp only [Act.put, List.getElem_toArray, List.getElem_cons_succ, List.getElem_cons_zero, List.setIfInBounds_toArray, List.set_cons_succ, List.set_cons_zero])
  refine wpAnyH_take (i := 13) (v := undef) rfl (by kernel_rfl) (by kernel_rfl) (by kernel_rfl) (fun _ _ _ h => h) (Or.inr ⟨by rfl, rfl⟩) hHeld ?_
  (try simp only [Act.put, List.getElem_toArray, List.getElem_cons_succ, List.getElem_cons_zero, List.setIfInBounds_toArray, List.set_cons_succ, List.set_cons_zero])
  refine wpAnyH_take (i := 14) (v := ?_) rfl (by kernel_rfl) (by kernel_rfl) (by kernel_rfl) (fun _ _ _ h => h) (Or.inl ⟨by rfl, ?_⟩) hHeld ?_
  rotate_left
  · (intro wx hSx; obtain ⟨⟨a0, a1, a2, a3, a4, a5⟩, _⟩ : (_ ∧ _) ∧ True := ⟨hSx.1, trivial⟩; go_simp; (try with_reducible rfl))
  (try simp only [Act.put, List.getElem_toArray, List.getElem_cons_succ, List.getElem_cons_zero, List.setIfInBounds_toArray, List.set_cons_succ, List.set_cons_zero])
  refine wpAnyH_take (i := 15) (v := ?_) rfl (by kernel_rfl) (by kernel_rfl) (by kernel_rfl) (fun _ _ _ h => h) (Or.inl ⟨by rfl, ?_⟩) hHeld ?_
  rotate_left
  · (intro wx hSx; obtain ⟨⟨a0, a1, a2, a3, a4, a5⟩, _⟩ : (_ ∧ _) ∧ True := ⟨hSx.1, trivial⟩; go_simp; (try with_reducible rfl))
  (try simp only [Act.put, List.getElem_toArray, List.getElem_cons_succ, List.getElem_cons_zero, List.setIfInBounds_toArray, List.set_cons_succ, List.set_cons_zero])
  refine wpAnyH_done (by kernel_rfl) ?_ _
  clear hHeld
  by_cases s0 : r.st = 0
  · have HV2 : Hid (decide (okRc r) = decide (r.code = 0)) := Lib.hid (decide_eq_decide.2 (HV.out.trans (by simp [stRc, HFI.out, HFU.out, s0])))
    obtain ⟨a0, a1, a2, a3, a4, a5⟩ := HH.out.1
    rw [s0] at a0
    clear s0
    go_wp2
    go_ret
    exact ⟨by rw [HV2.out] <;> rfl, HH.out.2.2.2⟩
  by_cases s1 : r.st = 1
  · have HV2 : Hid (decide (okRc r) = false) := Lib.hid (decide_eq_false (fun h => by have h9 := HV.out.1 h; simp [stRc, HFI.out, HFU.out, s1] at h9))
    obtain ⟨a0, a1, a2, a3, a4, a5⟩ := HH.out.1
    rw [s1] at a0
    clear s1 s0
    go_wp2
    go_ret
    exact ⟨by rw [HV2.out] <;> rfl, HH.out.2.2.2⟩
  by_cases s2 : r.st = 2
  · have HV2 : Hid (decide (okRc r) = false) := Lib.hid (decide_eq_false (fun h => by have h9 := HV.out.1 h; simp [stRc, HFI.out, HFU.out, s2] at h9))
    obtain ⟨a0, a1, a2, a3, a4, a5⟩ := HH.out.1
    rw [s2] at a0
    clear s2 s0 s1
    go_wp2
    go_ret
    exact ⟨by rw [HV2.out] <;> rfl, HH.out.2.2.2⟩
  by_cases s3 : r.st = 3
  · have HV2 : Hid (decide (okRc r) = false) := Lib.hid (decide_eq_false (fun h => by have h9 := HV.out.1 h; simp [stRc, HFI.out, HFU.out, s3] at h9))
    obtain ⟨a0, a1, a2, a3, a4, a5⟩ := HH.out.1
    rw [s3] at a0
    clear s3 s0 s1 s2
    go_wp2
    go_ret
    exact ⟨by rw [HV2.out] <;> rfl, HH.out.2.2.2⟩
  by_cases s4 : r.st = 4
  · have HV2 : Hid (decide (okRc r) = false) := Lib.hid (decide_eq_false (fun h => by have h9 := HV.out.1 h; simp [stRc, HFI.out, HFU.out, s4] at h9))
    obtain ⟨a0, a1, a2, a3, a4, a5⟩ := HH.out.1
    rw [s4] at a0
    clear s4 s0 s1 s2 s3
    go_wp2
    go_ret
    exact ⟨by rw [HV2.out] <;> rfl, HH.out.2.2.2⟩
  by_cases s5 : r.st = 5
  · have HV2 : Hid (decide (okRc r) = false) := Lib.hid (decide_eq_false (fun h => by have h9 := HV.out.1 h; simp [stRc, HFI.out, HFU.out, s5] at h9))
    obtain ⟨a0, a1, a2, a3, a4, a5⟩ := HH.out.1
    rw [s5] at a0
    clear s5 s0 s1 s2 s3 s4
    go_wp2
    go_ret
    exact ⟨by rw [HV2.out] <;> rfl, HH.out.2.2.2⟩
  have HV2 : Hid (decide (okRc r) = false) := Lib.hid (decide_eq_false (fun h => by have h9 := HV.out.1 h; simp [stRc, HFI.out, HFU.out, s0, s1, s2, s3, s4, s5] at h9))
  obtain ⟨a0, a1, a2, a3, a4, a5⟩ := HH.out.1
  have t0 : (r.st == 0) = false := by simpa using s0
  have t1 : (r.st == 1) = false := by simpa using s1
  have t2 : (r.st == 2) = false := by simpa using s2
  have t3 : (r.st == 3) = false := by simpa using s3
  have t4 : (r.st == 4) = false := by simpa using s4
  have t5 : (r.st == 5) = false := by simpa using s5
  clear s0 s1 s2 s3 s4 s5
  go_wp2
  go_ret
  exact ⟨by rw [HV2.out] <;> rfl, HH.out.2.2.2⟩
set_option maxRecDepth 100000 in
set_option maxHeartbeats 4000000 in
/-- All has come. -/
theorem sisrc_full (r : Rc) (A : Option Addr) (cap B : Nat) (w : World) (hB : B ≤ w.heap.size) (hr : Chs w B A r.buf.chs) (hn : r.buf.chs.length ≤ 1000000000) (hi : inB r.buf.chs) (hx : inRc r) (h0 : okB r.buf) (h1 : 0 ≤ r.hi ∧ r.hi ≤ 4611686018427387903) (h2 : ¬ (r.hi < endB r.buf)) (h3 : 0 ≤ r.code ∧ r.code ≤ 4611686018427387903) (hf : r.fin ≠ -1) (h5 : ¬ r.fin < r.hi) (h6 : r.fin ≤ 4611686018427387903) (hfull : fullRc r) (hh : headRc r) :
    Calls Try.prog 19 #[rcV r (.slice A r.buf.chs.length cap)] w fun e w' => e = .returned (.bool (decide (okRc r))) ∧ Below w.heap.size w w' := by
  have HH := Lib.hid (InRc.start w r A cap 28 (hr.wide hB)).drew
  have HISB : Hid (∀ W, InRc w w.heap.size r A cap W → Calls Try.prog 50 #[bfV r.buf.next (.slice A r.buf.chs.length cap)] W fun e w' => e = .returned (.bool (decide (okB r.buf))) ∧ Below W.heap.size W w') := Lib.hid fun W h => sisb r.buf A cap w.heap.size W (Nat.le_of_lt h.2.2.1) h.2.1 hn hi hx.2.1
  have HEND : Hid (∀ W, InRc w w.heap.size r A cap W → Calls Try.prog 51 #[bfV r.buf.next (.slice A r.buf.chs.length cap)] W fun e w' => e = .returned (.int .i64 (endB r.buf)) ∧ Below W.heap.size W w') := Lib.hid fun W h => sendof r.buf A cap w.heap.size W (Nat.le_of_lt h.2.2.1) h.2.1 hn hi hx.2.1
  have HRDY : Hid (∀ W, InRc w w.heap.size r A cap W → Calls Try.prog 52 #[bfV r.buf.next (.slice A r.buf.chs.length cap)] W fun e w' => e = .returned (.int .i64 (rdyB r.buf : Nat)) ∧ Below W.heap.size W w') := Lib.hid fun W h => sready r.buf A cap w.heap.size W (Nat.le_of_lt h.2.2.1) h.2.1 hn hi hx.2.1
  have HQH : Hid (∀ W, InRc w w.heap.size r A cap W → Calls Try.prog 47 #[.int .i64 r.hi] W fun e w' => e = .returned (.bool (decide (0 ≤ r.hi ∧ r.hi ≤ 4611686018427387903))) ∧ Below W.heap.size W w') := Lib.hid fun W _ => squicW r.hi W
  have HQC : Hid (∀ W, InRc w w.heap.size r A cap W → Calls Try.prog 47 #[.int .i64 r.code] W fun e w' => e = .returned (.bool (decide (0 ≤ r.code ∧ r.code ≤ 4611686018427387903))) ∧ Below W.heap.size W w') := Lib.hid fun W _ => squicW r.code W
  have HV : Hid (okRc r ↔ stRc r) := Lib.hid ⟨fun h => h.2, fun h => ⟨hh, h⟩⟩
  have hw : IntKind.i64.wrap (r.buf.next + (rdyB r.buf : Int)) = r.buf.next + (rdyB r.buf : Int) := by rw [IntKind.wrap_i64]; have h9 := rdyB_le h0; have := h0.2.1; have := hx.2.2.2.1.2; clear hx; omega
  have hfl : (r.buf.next + (rdyB r.buf : Int) == r.fin) = true := by simpa [fullRc, hf] using hfull
  have d5 : decide (r.fin < r.hi) = false := decide_eq_false h5
  rw [decide_eq_true h0] at HISB
  rw [decide_eq_true h1] at HQH
  have d2 : decide (r.hi < endB r.buf) = false := decide_eq_false h2
  rw [decide_eq_true h3] at HQC
  have f0 : (r.fin == -1) = false := by simpa using hf
  have f1 : (r.fin != -1) = true := by simpa using hf
  have d6 : decide (4611686018427387903 < r.fin) = false := decide_eq_false (by omega)
  have d7 : decide (r.fin < -1) = false := decide_eq_false (by omega)
  have HFU := Lib.hid hfull
  have HFI := Lib.hid hf
  clear hh hfull h0 h1 h2 h3 hf h5 h6
  clear hr hi hx hn
  go_enter Try.func19, Try.ntmps19
  go_wp2
  refine wp_region_held_drew (S := (InRc w w.heap.size r A cap)) (by kernel_rfl) HH.out (fun hHeld => ?_)
  refine wpAnyH_take (i := 0) (v := ?_) rfl (by kernel_rfl) (by kernel_rfl) (by kernel_rfl) (fun _ _ _ h => h) (Or.inl ⟨by rfl, ?_⟩) hHeld ?_
  rotate_left
  · (intro wx hSx; obtain ⟨⟨a0, a1, a2, a3, a4, a5⟩, _⟩ : (_ ∧ _) ∧ True := ⟨hSx.1, trivial⟩; go_simp; (try with_reducible rfl))
  (try simp only [Act.put, List.getElem_toArray, List.getElem_cons_zero, List.setIfInBounds_toArray, List.set_cons_succ, List.set_cons_zero])
  refine wpAnyH_take (i := 1) (v := ?_) rfl (by kernel_rfl) (by kernel_rfl) (by kernel_rfl) (fun _ _ _ h => h) (Or.inl ⟨by rfl, ?_⟩) hHeld ?_
  rotate_left
  · (intro wx hSx; obtain ⟨⟨a0, a1, a2, a3, a4, a5⟩, _⟩ : (_ ∧ _) ∧ True := ⟨hSx.1, trivial⟩; go_simp; (try with_reducible rfl))
  (try simp only [Act.put, List.getElem_toArray, List.getElem_cons_succ, List.getElem_cons_zero, List.setIfInBounds_toArray, List.set_cons_succ, List.set_cons_zero])
  refine wpAnyH_ready (rs := [2]) (by kernel_rfl) (by simp) ?_
  refine AllReadyH.cons rfl (fun K hK => ?_) AllReadyH.nil
  rw [if_pos (by rfl)]
  go_simp
  refine (HISB.out _ HH.out).mono ?_
  rintro e w1 ⟨rfl, hb1⟩
  have HH := Lib.hid (HH.out.next hb1)
  (try simp only [])
  refine hK.out _ _ HH.out (fun hHeld => ?_)
  clear hb1
  clear hK K
  (try simp only [Act.put, List.getElem_toArray, List.getElem_cons_succ, List.getElem_cons_zero, List.setIfInBounds_toArray, List.set_cons_succ, List.set_cons_zero])
  refine wpAnyH_take (i := 3) (v := ?_) rfl (by kernel_rfl) (by kernel_rfl) (by kernel_rfl) (fun _ _ _ h => h) (Or.inl ⟨by rfl, ?_⟩) hHeld ?_
  rotate_left
  · (intro wx hSx; obtain ⟨⟨a0, a1, a2, a3, a4, a5⟩, _⟩ : (_ ∧ _) ∧ True := ⟨hSx.1, trivial⟩; go_simp; (try with_reducible rfl))
  (try simp only [Act.put, List.getElem_toArray, List.getElem_cons_succ, List.getElem_cons_zero, List.setIfInBounds_toArray, List.set_cons_succ, List.set_cons_zero])
  refine wpAnyH_take (i := 4) (v := ?_) rfl (by kernel_rfl) (by kernel_rfl) (by kernel_rfl) (fun _ _ _ h => h) (Or.inl ⟨by rfl, ?_⟩) hHeld ?_
  rotate_left
  · (intro wx hSx; obtain ⟨⟨a0, a1, a2, a3, a4, a5⟩, _⟩ : (_ ∧ _) ∧ True := ⟨hSx.1, trivial⟩; go_simp; (try with_reducible rfl))
  (try simp only [Act.put, List.getElem_toArray, List.getElem_cons_succ, List.getElem_cons_zero, List.setIfInBounds_toArray, List.set_cons_succ, List.set_cons_zero])
  refine wpAnyH_take (i := 5) (v := ?_) rfl (by kernel_rfl) (by kernel_rfl) (by kernel_rfl) (fun _ _ _ h => h) (Or.inl ⟨by rfl, ?_⟩) hHeld ?_
  rotate_left
  · (intro wx hSx; obtain ⟨⟨a0, a1, a2, a3, a4, a5⟩, _⟩ : (_ ∧ _) ∧ True := ⟨hSx.1, trivial⟩; go_simp; (try with_reducible rfl))
  (try simp only [Act.put, List.getElem_toArray, List.getElem_cons_succ, List.getElem_cons_zero, List.setIfInBounds_toArray, List.set_cons_succ, List.set_cons_zero])
  refine wpAnyH_take (i := 6) (v := ?_) rfl (by kernel_rfl) (by kernel_rfl) (by kernel_rfl) (fun _ _ _ h => h) (Or.inl ⟨by rfl, ?_⟩) hHeld ?_
  rotate_left
  · (intro wx hSx; obtain ⟨⟨a0, a1, a2, a3, a4, a5⟩, _⟩ : (_ ∧ _) ∧ True := ⟨hSx.1, trivial⟩; go_simp; (try with_reducible rfl))
  (try simp only [Act.put, List.getElem_toArray, List.getElem_cons_succ, List.getElem_cons_zero, List.setIfInBounds_toArray, List.set_cons_succ, List.set_cons_zero])
  refine wpAnyH_ready (rs := [7]) (by kernel_rfl) (by simp) ?_
  refine AllReadyH.cons rfl (fun K hK => ?_) AllReadyH.nil
  rw [if_pos (by rfl)]
  go_simp
  refine (HQH.out _ HH.out).mono ?_
  rintro e w1 ⟨rfl, hb1⟩
  have HH := Lib.hid (HH.out.next hb1)
  (try simp only [])
  refine hK.out _ _ HH.out (fun hHeld => ?_)
  clear hb1
  clear hK K
  (try simp only [Act.put, List.getElem_toArray, List.getElem_cons_succ, List.getElem_cons_zero, List.setIfInBounds_toArray, List.set_cons_succ, List.set_cons_zero])
  refine wpAnyH_take (i := 8) (v := ?_) rfl (by kernel_rfl) (by kernel_rfl) (by kernel_rfl) (fun _ _ _ h => h) (Or.inl ⟨by rfl, ?_⟩) hHeld ?_
  rotate_left
  · (intro wx hSx; obtain ⟨⟨a0, a1, a2, a3, a4, a5⟩, _⟩ : (_ ∧ _) ∧ True := ⟨hSx.1, trivial⟩; go_simp; (try with_reducible rfl))
  (try simp only [Act.put, List.getElem_toArray, List.getElem_cons_succ, List.getElem_cons_zero, List.setIfInBounds_toArray, List.set_cons_succ, List.set_cons_zero])
  refine wpAnyH_take (i := 9) (v := ?_) rfl (by kernel_rfl) (by kernel_rfl) (by kernel_rfl) (fun _ _ _ h => h) (Or.inl ⟨by rfl, ?_⟩) hHeld ?_
  rotate_left
  · (intro wx hSx; obtain ⟨⟨a0, a1, a2, a3, a4, a5⟩, _⟩ : (_ ∧ _) ∧ True := ⟨hSx.1, trivial⟩; go_simp; (try with_reducible rfl))
  (try simp only [Act.put, List.getElem_toArray, List.getElem_cons_succ, List.getElem_cons_zero, List.setIfInBounds_toArray, List.set_cons_succ, List.set_cons_zero])
  refine wpAnyH_take (i := 10) (v := ?_) rfl (by kernel_rfl) (by kernel_rfl) (by kernel_rfl) (fun _ _ _ h => h) (Or.inl ⟨by rfl, ?_⟩) hHeld ?_
  rotate_left
  · (intro wx hSx; obtain ⟨⟨a0, a1, a2, a3, a4, a5⟩, _⟩ : (_ ∧ _) ∧ True := ⟨hSx.1, trivial⟩; go_simp; (try with_reducible rfl))
  (try simp only [Act.put, List.getElem_toArray, List.getElem_cons_succ, List.getElem_cons_zero, List.setIfInBounds_toArray, List.set_cons_succ, List.set_cons_zero])
  refine wpAnyH_take (i := 11) (v := ?_) rfl (by kernel_rfl) (by kernel_rfl) (by kernel_rfl) (fun _ _ _ h => h) (Or.inl ⟨by rfl, ?_⟩) hHeld ?_
  rotate_left
  · (intro wx hSx; obtain ⟨⟨a0, a1, a2, a3, a4, a5⟩, _⟩ : (_ ∧ _) ∧ True := ⟨hSx.1, trivial⟩; go_simp; (try with_reducible rfl))
  (try simp only [Act.put, List.getElem_toArray, List.getElem_cons_succ, List.getElem_cons_zero, List.setIfInBounds_toArray, List.set_cons_succ, List.set_cons_zero])
  refine wpAnyH_take (i := 12) (v := ?_) rfl (by kernel_rfl) (by kernel_rfl) (by kernel_rfl) (fun _ _ _ h => h) (Or.inl ⟨by rfl, ?_⟩) hHeld ?_
  rotate_left
  · (intro wx hSx; obtain ⟨⟨a0, a1, a2, a3, a4, a5⟩, _⟩ : (_ ∧ _) ∧ True := ⟨hSx.1, trivial⟩; go_simp; (try with_reducible rfl))
  (try simp only [Act.put, List.getElem_toArray, List.getElem_cons_succ, List.getElem_cons_zero, List.setIfInBounds_toArray, List.set_cons_succ, List.set_cons_zero])
  refine wpAnyH_take (i := 14) (v := ?_) rfl (by kernel_rfl) (by kernel_rfl) (by kernel_rfl) (fun _ _ _ h => h) (Or.inl ⟨by rfl, ?_⟩) hHeld ?_
  rotate_left
  · (intro wx hSx; obtain ⟨⟨a0, a1, a2, a3, a4, a5⟩, _⟩ : (_ ∧ _) ∧ True := ⟨hSx.1, trivial⟩; go_simp; (try with_reducible rfl))
  (try simp only [Act.put, List.getElem_toArray, List.getElem_cons_succ, List.getElem_cons_zero, List.setIfInBounds_toArray, List.set_cons_succ, List.set_cons_zero])
  refine wpAnyH_take (i := 15) (v := ?_) rfl (by kernel_rfl) (by kernel_rfl) (by kernel_rfl) (fun _ _ _ h => h) (Or.inl ⟨by rfl, ?_⟩) hHeld ?_
  rotate_left
  · (intro wx hSx; obtain ⟨⟨a0, a1, a2, a3, a4, a5⟩, _⟩ : (_ ∧ _) ∧ True := ⟨hSx.1, trivial⟩; go_simp; (try with_reducible rfl))
  (try simp only [Act.put, List.getElem_toArray, List.getElem_cons_succ, List.getElem_cons_zero, List.setIfInBounds_toArray, List.set_cons_succ, List.set_cons_zero])
  refine wpAnyH_ready (rs := [13]) (by kernel_rfl) (by simp) ?_
  refine AllReadyH.cons rfl (fun K hK => ?_) AllReadyH.nil
  rw [if_pos (by rfl)]
  go_simp
  refine (HEND.out _ HH.out).mono ?_
  rintro e w1 ⟨rfl, hb1⟩
  have HH := Lib.hid (HH.out.next hb1)
  (try simp only [])
  refine hK.out _ _ HH.out (fun hHeld => ?_)
  clear hb1
  clear hK K
  (try simp only [Act.put, List.getElem_toArray, List.getElem_cons_succ, List.getElem_cons_zero, List.setIfInBounds_toArray, List.set_cons_succ, List.set_cons_zero])
  refine wpAnyH_take (i := 16) (v := ?_) rfl (by kernel_rfl) (by kernel_rfl) (by kernel_rfl) (fun _ _ _ h => h) (Or.inl ⟨by rfl, ?_⟩) hHeld ?_
  rotate_left
  · (intro wx hSx; obtain ⟨⟨a0, a1, a2, a3, a4, a5⟩, _⟩ : (_ ∧ _) ∧ True := ⟨hSx.1, trivial⟩; go_simp; (try with_reducible rfl))
  (try simp only [Act.put, List.getElem_toArray, List.getElem_cons_succ, List.getElem_cons_zero, List.setIfInBounds_toArray, List.set_cons_succ, List.set_cons_zero])
  refine wpAnyH_take (i := 17) (v := ?_) rfl (by kernel_rfl) (by kernel_rfl) (by kernel_rfl) (fun _ _ _ h => h) (Or.inl ⟨by rfl, ?_⟩) hHeld ?_
  rotate_left
  · (intro wx hSx; obtain ⟨⟨a0, a1, a2, a3, a4, a5⟩, _⟩ : (_ ∧ _) ∧ True := ⟨hSx.1, trivial⟩; go_simp; (try with_reducible rfl))
  (try simp only [Act.put, List.getElem_toArray, List.getElem_cons_succ, List.getElem_cons_zero, List.setIfInBounds_toArray, List.set_cons_succ, List.set_cons_zero])
  refine wpAnyH_take (i := 18) (v := ?_) rfl (by kernel_rfl) (by kernel_rfl) (by kernel_rfl) (fun _ _ _ h => h) (Or.inl ⟨by rfl, ?_⟩) hHeld ?_
  rotate_left
  · (intro wx hSx; obtain ⟨⟨a0, a1, a2, a3, a4, a5⟩, _⟩ : (_ ∧ _) ∧ True := ⟨hSx.1, trivial⟩; go_simp; (try with_reducible rfl))
  (try simp only [Act.put, List.getElem_toArray, List.getElem_cons_succ, List.getElem_cons_zero, List.setIfInBounds_toArray, List.set_cons_succ, List.set_cons_zero])
  refine wpAnyH_take (i := 19) (v := ?_) rfl (by kernel_rfl) (by kernel_rfl) (by kernel_rfl) (fun _ _ _ h => h) (Or.inl ⟨by rfl, ?_⟩) hHeld ?_
  rotate_left
  · (intro wx hSx; obtain ⟨⟨a0, a1, a2, a3, a4, a5⟩, _⟩ : (_ ∧ _) ∧ True := ⟨hSx.1, trivial⟩; go_simp; (try with_reducible rfl))
  (try simp only [Act.put, List.getElem_toArray, List.getElem_cons_succ, List.getElem_cons_zero, List.setIfInBounds_toArray, List.set_cons_succ, List.set_cons_zero])
  refine wpAnyH_take (i := 20) (v := ?_) rfl (by kernel_rfl) (by kernel_rfl) (by kernel_rfl) (fun _ _ _ h => h) (Or.inl ⟨by rfl, ?_⟩) hHeld ?_
  rotate_left
  · (intro wx hSx; obtain ⟨⟨a0, a1, a2, a3, a4, a5⟩, _⟩ : (_ ∧ _) ∧ True := ⟨hSx.1, trivial⟩; go_simp; (try with_reducible rfl))
  (try simp only [Act.put, List.getElem_toArray, List.getElem_cons_succ, List.getElem_cons_zero, List.setIfInBounds_toArray, List.set_cons_succ, List.set_cons_zero])
  refine wpAnyH_ready (rs := [21]) (by kernel_rfl) (by simp) ?_
  refine AllReadyH.cons rfl (fun K hK => ?_) AllReadyH.nil
  rw [if_pos (by rfl)]
  go_simp
  refine (HQC.out _ HH.out).mono ?_
  rintro e w1 ⟨rfl, hb1⟩
  have HH := Lib.hid (HH.out.next hb1)
  (try simp only [])
  refine hK.out _ _ HH.out (fun hHeld => ?_)
  clear hb1
  clear hK K
  (try simp only [Act.put, List.getElem_toArray, List.getElem_cons_succ, List.getElem_cons_zero, List.setIfInBounds_toArray, List.set_cons_succ, List.set_cons_zero])
  refine wpAnyH_take (i := 22) (v := ?_) rfl (by kernel_rfl) (by kernel_rfl) (by kernel_rfl) (fun _ _ _ h => h) (Or.inl ⟨by rfl, ?_⟩) hHeld ?_
  rotate_left
  · (intro wx hSx; obtain ⟨⟨a0, a1, a2, a3, a4, a5⟩, _⟩ : (_ ∧ _) ∧ True := ⟨hSx.1, trivial⟩; go_simp; (try with_reducible rfl))
  (try simp only [Act.put, List.getElem_toArray, List.getElem_cons_succ, List.getElem_cons_zero, List.setIfInBounds_toArray, List.set_cons_succ, List.set_cons_zero])
  refine wpAnyH_take (i := 23) (v := ?_) rfl (by kernel_rfl) (by kernel_rfl) (by kernel_rfl) (fun _ _ _ h => h) (Or.inl ⟨by rfl, ?_⟩) hHeld ?_
  rotate_left
  · (intro wx hSx; obtain ⟨⟨a0, a1, a2, a3, a4, a5⟩, _⟩ : (_ ∧ _) ∧ True := ⟨hSx.1, trivial⟩; go_simp; (try with_reducible rfl))
  (try simp only [Act.put, List.getElem_toArray, List.getElem_cons_succ, List.getElem_cons_zero, List.setIfInBounds_toArray, List.set_cons_succ, List.set_cons_zero])
  refine wpAnyH_take (i := 24) (v := ?_) rfl (by kernel_rfl) (by kernel_rfl) (by kernel_rfl) (fun _ _ _ h => h) (Or.inl ⟨by rfl, ?_⟩) hHeld ?_
  rotate_left
  · (intro wx hSx; obtain ⟨⟨a0, a1, a2, a3, a4, a5⟩, _⟩ : (_ ∧ _) ∧ True := ⟨hSx.1, trivial⟩; go_simp; (try with_reducible rfl))
  (try simp only [Act.put, List.getElem_toArray, List.getElem_cons_succ, List.getElem_cons_zero, List.setIfInBounds_toArray, List.set_cons_succ, List.set_cons_zero])
  refine wpAnyH_take (i := 25) (v := ?_) rfl (by kernel_rfl) (by kernel_rfl) (by kernel_rfl) (fun _ _ _ h => h) (Or.inl ⟨by rfl, ?_⟩) hHeld ?_
  rotate_left
  · (intro wx hSx; obtain ⟨⟨a0, a1, a2, a3, a4, a5⟩, _⟩ : (_ ∧ _) ∧ True := ⟨hSx.1, trivial⟩; go_simp; (try with_reducible rfl))
  (try simp only [Act.put, List.getElem_toArray, List.getElem_cons_succ, List.getElem_cons_zero, List.setIfInBounds_toArray, List.set_cons_succ, List.set_cons_zero])
  refine wpAnyH_take (i := 26) (v := ?_) rfl (by kernel_rfl) (by kernel_rfl) (by kernel_rfl) (fun _ _ _ h => h) (Or.inl ⟨by rfl, ?_⟩) hHeld ?_
  rotate_left
  · (intro wx hSx; obtain ⟨⟨a0, a1, a2, a3, a4, a5⟩, _⟩ : (_ ∧ _) ∧ True := ⟨hSx.1, trivial⟩; go_simp; (try with_reducible rfl))
  (try simp only [Act.put, List.getElem_toArray, List.getElem_cons_succ, List.getElem_cons_zero, List.setIfInBounds_toArray, List.set_cons_succ, List.set_cons_zero])
  refine wpAnyH_take (i := 27) (v := ?_) rfl (by kernel_rfl) (by kernel_rfl) (by kernel_rfl) (fun _ _ _ h => h) (Or.inl ⟨by rfl, ?_⟩) hHeld ?_
  rotate_left
  · (intro wx hSx; obtain ⟨⟨a0, a1, a2, a3, a4, a5⟩, _⟩ : (_ ∧ _) ∧ True := ⟨hSx.1, trivial⟩; go_simp; (try with_reducible rfl))
  (try simp only [Act.put, List.getElem_toArray, List.getElem_cons_succ, List.getElem_cons_zero, List.setIfInBounds_toArray, List.set_cons_succ, List.set_cons_zero])
  refine wpAnyH_take (i := 28) (v := ?_) rfl (by kernel_rfl) (by kernel_rfl) (by kernel_rfl) (fun _ _ _ h => h) (Or.inl ⟨by rfl, ?_⟩) hHeld ?_
  rotate_left
  · (intro wx hSx; obtain ⟨⟨a0, a1, a2, a3, a4, a5⟩, _⟩ : (_ ∧ _) ∧ True := ⟨hSx.1, trivial⟩; go_simp; (try with_reducible rfl))
  (try simp only [Act.put, List.getElem_toArray, List.getElem_cons_succ, List.getElem_cons_zero, List.setIfInBounds_toArray, List.set_cons_succ, List.set_cons_zero])
  refine wpAnyH_take (i := 29) (v := ?_) rfl (by kernel_rfl) (by kernel_rfl) (by kernel_rfl) (fun _ _ _ h => h) (Or.inl ⟨by rfl, ?_⟩) hHeld ?_
  rotate_left
  · (intro wx hSx; obtain ⟨⟨a0, a1, a2, a3, a4, a5⟩, _⟩ : (_ ∧ _) ∧ True := ⟨hSx.1, trivial⟩; go_simp; (try with_reducible rfl))
  (try simp only [Act.put, List.getElem_toArray, List.getElem_cons_succ, List.getElem_cons_zero, List.setIfInBounds_toArray, List.set_cons_succ, List.set_cons_zero])
  refine wpAnyH_take (i := 30) (v := ?_) rfl (by kernel_rfl) (by kernel_rfl) (by kernel_rfl) (fun _ _ _ h => h) (Or.inl ⟨by rfl, ?_⟩) hHeld ?_
  rotate_left
  · (intro wx hSx; obtain ⟨⟨a0, a1, a2, a3, a4, a5⟩, _⟩ : (_ ∧ _) ∧ True := ⟨hSx.1, trivial⟩; go_simp; (try with_reducible rfl))
  (try simp only [Act.put, List.getElem_toArray, List.getElem_cons_succ, List.getElem_cons_zero, List.setIfInBounds_toArray, List.set_cons_succ, List.set_cons_zero])
  refine wpAnyH_take (i := 31) (v := ?_) rfl (by kernel_rfl) (by kernel_rfl) (by kernel_rfl) (fun _ _ _ h => h) (Or.inl ⟨by rfl, ?_⟩) hHeld ?_
  rotate_left
  · (intro wx hSx; obtain ⟨⟨a0, a1, a2, a3, a4, a5⟩, _⟩ : (_ ∧ _) ∧ True := ⟨hSx.1, trivial⟩; go_simp; (try with_reducible rfl))
  (try simp only [Act.put, List.getElem_toArray, List.getElem_cons_succ, List.getElem_cons_zero, List.setIfInBounds_toArray, List.set_cons_succ, List.set_cons_zero])
  refine wpAnyH_take (i := 32) (v := ?_) rfl (by kernel_rfl) (by kernel_rfl) (by kernel_rfl) (fun _ _ _ h => h) (Or.inl ⟨by rfl, ?_⟩) hHeld ?_
  rotate_left
  · (intro wx hSx; obtain ⟨⟨a0, a1, a2, a3, a4, a5⟩, _⟩ : (_ ∧ _) ∧ True := ⟨hSx.1, trivial⟩; go_simp; (try with_reducible rfl))
  (try simp only [Act.put, List.getElem_toArray, List.getElem_cons_succ, List.getElem_cons_zero, List.setIfInBounds_toArray, List.set_cons_succ, List.set_cons_zero])
  refine wpAnyH_take (i := 33) (v := ?_) rfl (by kernel_rfl) (by kernel_rfl) (by kernel_rfl) (fun _ _ _ h => h) (Or.inl ⟨by rfl, ?_⟩) hHeld ?_
  rotate_left
  · (intro wx hSx; obtain ⟨⟨a0, a1, a2, a3, a4, a5⟩, _⟩ : (_ ∧ _) ∧ True := ⟨hSx.1, trivial⟩; go_simp; (try with_reducible rfl))
  (try simp only [Act.put, List.getElem_toArray, List.getElem_cons_succ, List.getElem_cons_zero, List.setIfInBounds_toArray, List.set_cons_succ, List.set_cons_zero])
  refine wpAnyH_take (i := 34) (v := ?_) rfl (by kernel_rfl) (by kernel_rfl) (by kernel_rfl) (fun _ _ _ h => h) (Or.inl ⟨by rfl, ?_⟩) hHeld ?_
  rotate_left
  · (intro wx hSx; obtain ⟨⟨a0, a1, a2, a3, a4, a5⟩, _⟩ : (_ ∧ _) ∧ True := ⟨hSx.1, trivial⟩; go_simp; (try with_reducible rfl))
  (try simp only [Act.put, List.getElem_toArray, List.getElem_cons_succ, List.getElem_cons_zero, List.setIfInBounds_toArray, List.set_cons_succ, List.set_cons_zero])
  refine wpAnyH_take (i := 35) (v := ?_) rfl (by kernel_rfl) (by kernel_rfl) (by kernel_rfl) (fun _ _ _ h => h) (Or.inl ⟨by rfl, ?_⟩) hHeld ?_
  rotate_left
  · (intro wx hSx; obtain ⟨⟨a0, a1, a2, a3, a4, a5⟩, _⟩ : (_ ∧ _) ∧ True := ⟨hSx.1, trivial⟩; go_simp; (try with_reducible rfl))
  (try simp only [Act.put, List.getElem_toArray, List.getElem_cons_succ, List.getElem_cons_zero, List.setIfInBounds_toArray, List.set_cons_succ, List.set_cons_zero])
  refine wpAnyH_take (i := 36) (v := ?_) rfl (by kernel_rfl) (by kernel_rfl) (by kernel_rfl) (fun _ _ _ h => h) (Or.inl ⟨by rfl, ?_⟩) hHeld ?_
  rotate_left
  · (intro wx hSx; obtain ⟨⟨a0, a1, a2, a3, a4, a5⟩, _⟩ : (_ ∧ _) ∧ True := ⟨hSx.1, trivial⟩; go_simp; (try with_reducible rfl))
  (try simp only [Act.put, List.getElem_toArray, List.getElem_cons_succ, List.getElem_cons_zero, List.setIfInBounds_toArray, List.set_cons_succ, List.set_cons_zero])
  refine wpAnyH_take (i := 37) (v := ?_) rfl (by kernel_rfl) (by kernel_rfl) (by kernel_rfl) (fun _ _ _ h => h) (Or.inl ⟨by rfl, ?_⟩) hHeld ?_
  rotate_left
  · (intro wx hSx; obtain ⟨⟨a0, a1, a2, a3, a4, a5⟩, _⟩ : (_ ∧ _) ∧ True := ⟨hSx.1, trivial⟩; go_simp; (try with_reducible rfl))
  (try simp only [Act.put, List.getElem_toArray, List.getElem_cons_succ, List.getElem_cons_zero, List.setIfInBounds_toArray, List.set_cons_succ, List.set_cons_zero])
  refine wpAnyH_take (i := 38) (v := ?_) rfl (by kernel_rfl) (by kernel_rfl) (by kernel_rfl) (fun _ _ _ h => h) (Or.inl ⟨by rfl, ?_⟩) hHeld ?_
  rotate_left
  · (intro wx hSx; obtain ⟨⟨a0, a1, a2, a3, a4, a5⟩, _⟩ : (_ ∧ _) ∧ True := ⟨hSx.1, trivial⟩; go_simp; (try with_reducible rfl))
  (try simp only [Act.put, List.getElem_toArray, List.getElem_cons_succ, List.getElem_cons_zero, List.setIfInBounds_toArray, List.set_cons_succ, List.set_cons_zero])
  refine wpAnyH_take (i := 39) (v := ?_) rfl (by kernel_rfl) (by kernel_rfl) (by kernel_rfl) (fun _ _ _ h => h) (Or.inl ⟨by rfl, ?_⟩) hHeld ?_
  rotate_left
  · (intro wx hSx; obtain ⟨⟨a0, a1, a2, a3, a4, a5⟩, _⟩ : (_ ∧ _) ∧ True := ⟨hSx.1, trivial⟩; go_simp; (try with_reducible rfl))
  (try simp only [Act.put, List.getElem_toArray, List.getElem_cons_succ, List.getElem_cons_zero, List.setIfInBounds_toArray, List.set_cons_succ, List.set_cons_zero])
  refine wpAnyH_take (i := 40) (v := ?_) rfl (by kernel_rfl) (by kernel_rfl) (by kernel_rfl) (fun _ _ _ h => h) (Or.inl ⟨by rfl, ?_⟩) hHeld ?_
  rotate_left
  · (intro wx hSx; obtain ⟨⟨a0, a1, a2, a3, a4, a5⟩, _⟩ : (_ ∧ _) ∧ True := ⟨hSx.1, trivial⟩; go_simp; (try with_reducible rfl))
  (try simp only [Act.put, List.getElem_toArray, List.getElem_cons_succ, List.getElem_cons_zero, List.setIfInBounds_toArray, List.set_cons_succ, List.set_cons_zero])
  refine wpAnyH_take (i := 41) (v := ?_) rfl (by kernel_rfl) (by kernel_rfl) (by kernel_rfl) (fun _ _ _ h => h) (Or.inl ⟨by rfl, ?_⟩) hHeld ?_
  rotate_left
  · (intro wx hSx; obtain ⟨⟨a0, a1, a2, a3, a4, a5⟩, _⟩ : (_ ∧ _) ∧ True := ⟨hSx.1, trivial⟩; go_simp; (try with_reducible rfl))
  (try simp only [Act.put, List.getElem_toArray, List.getElem_cons_succ, List.getElem_cons_zero, List.setIfInBounds_toArray, List.set_cons_succ, List.set_cons_zero])
  refine wpAnyH_take (i := 42) (v := ?_) rfl (by kernel_rfl) (by kernel_rfl) (by kernel_rfl) (fun _ _ _ h => h) (Or.inl ⟨by rfl, ?_⟩) hHeld ?_
  rotate_left
  · (intro wx hSx; obtain ⟨⟨a0, a1, a2, a3, a4, a5⟩, _⟩ : (_ ∧ _) ∧ True := ⟨hSx.1, trivial⟩; go_simp; (try with_reducible rfl))
  (try simp only [Act.put, List.getElem_toArray, List.getElem_cons_succ, List.getElem_cons_zero, List.setIfInBounds_toArray, List.set_cons_succ, List.set_cons_zero])
  refine wpAnyH_take (i := 43) (v := ?_) rfl (by kernel_rfl) (by kernel_rfl) (by kernel_rfl) (fun _ _ _ h => h) (Or.inl ⟨by rfl, ?_⟩) hHeld ?_
  rotate_left
  · (intro wx hSx; obtain ⟨⟨a0, a1, a2, a3, a4, a5⟩, _⟩ : (_ ∧ _) ∧ True := ⟨hSx.1, trivial⟩; go_simp; (try with_reducible rfl))
  (try simp only [Act.put, List.getElem_toArray, List.getElem_cons_succ, List.getElem_cons_zero, List.setIfInBounds_toArray, List.set_cons_succ, List.set_cons_zero])
  refine wpAnyH_take (i := 44) (v := ?_) rfl (by kernel_rfl) (by kernel_rfl) (by kernel_rfl) (fun _ _ _ h => h) (Or.inl ⟨by rfl, ?_⟩) hHeld ?_
  rotate_left
  · (intro wx hSx; obtain ⟨⟨a0, a1, a2, a3, a4, a5⟩, _⟩ : (_ ∧ _) ∧ True := ⟨hSx.1, trivial⟩; go_simp; (try with_reducible rfl))
  (try simp only [Act.put, List.getElem_toArray, List.getElem_cons_succ, List.getElem_cons_zero, List.setIfInBounds_toArray, List.set_cons_succ, List.set_cons_zero])
  refine wpAnyH_take (i := 45) (v := ?_) rfl (by kernel_rfl) (by kernel_rfl) (by kernel_rfl) (fun _ _ _ h => h) (Or.inl ⟨by rfl, ?_⟩) hHeld ?_
  rotate_left
  · (intro wx hSx; obtain ⟨⟨a0, a1, a2, a3, a4, a5⟩, _⟩ : (_ ∧ _) ∧ True := ⟨hSx.1, trivial⟩; go_simp; (try with_reducible rfl))
  (try simp only [Act.put, List.getElem_toArray, List.getElem_cons_succ, List.getElem_cons_zero, List.setIfInBounds_toArray, List.set_cons_succ, List.set_cons_zero])
  refine wpAnyH_done (by kernel_rfl) ?_ _
  clear hHeld
  go_upto_region 3 with fail
  have HH := Lib.hid HH.out.drew
  refine wp_region_held_drew (S := (InRc w w.heap.size r A cap)) (by kernel_rfl) HH.out (fun hHeld => ?_)
  refine wpAnyH_take (i := 0) (v := ?_) rfl (by kernel_rfl) (by kernel_rfl) (by kernel_rfl) (fun _ _ _ h => h) (Or.inl ⟨by rfl, ?_⟩) hHeld ?_
  rotate_left
  · (intro wx hSx; obtain ⟨⟨a0, a1, a2, a3, a4, a5⟩, _⟩ : (_ ∧ _) ∧ True := ⟨hSx.1, trivial⟩; go_simp; (try with_reducible rfl))
  (try simp only [Act.put, List.getElem_toArray, List.getElem_cons_zero, List.setIfInBounds_toArray, List.set_cons_succ, List.set_cons_zero])
  refine wpAnyH_take (i := 1) (v := ?_) rfl (by kernel_rfl) (by kernel_rfl) (by kernel_rfl) (fun _ _ _ h => h) (Or.inl ⟨by rfl, ?_⟩) hHeld ?_
  rotate_left
  · (intro wx hSx; obtain ⟨⟨a0, a1, a2, a3, a4, a5⟩, _⟩ : (_ ∧ _) ∧ True := ⟨hSx.1, trivial⟩; go_simp; (try with_reducible rfl))
  (try simp only [Act.put, List.getElem_toArray, List.getElem_cons_succ, List.getElem_cons_zero, List.setIfInBounds_toArray, List.set_cons_succ, List.set_cons_zero])
  refine wpAnyH_take (i := 2) (v := ?_) rfl (by kernel_rfl) (by kernel_rfl) (by kernel_rfl) (fun _ _ _ h => h) (Or.inl ⟨by rfl, ?_⟩) hHeld ?_
  rotate_left
  · (intro wx hSx; obtain ⟨⟨a0, a1, a2, a3, a4, a5⟩, _⟩ : (_ ∧ _) ∧ True := ⟨hSx.1, trivial⟩; go_simp; (try with_reducible rfl))
  (try simp only [Act.put, List.getElem_toArray, List.getElem_cons_succ, List.getElem_cons_zero, List.setIfInBounds_toArray, List.set_cons_succ, List.set_cons_zero])
  refine wpAnyH_take (i := 3) (v := ?_) rfl (by kernel_rfl) (by kernel_rfl) (by kernel_rfl) (fun _ _ _ h => h) (Or.inl ⟨by rfl, ?_⟩) hHeld ?_
  rotate_left
  · (intro wx hSx; obtain ⟨⟨a0, a1, a2, a3, a4, a5⟩, _⟩ : (_ ∧ _) ∧ True := ⟨hSx.1, trivial⟩; go_simp; (try with_reducible rfl))
  (try simp only [Act.put, List.getElem_toArray, List.getElem_cons_succ, List.getElem_cons_zero, List.setIfInBounds_toArray, List.set_cons_succ, List.set_cons_zero])
  refine wpAnyH_take (i := 4) (v := ?_) rfl (by kernel_rfl) (by kernel_rfl) (by kernel_rfl) (fun _ _ _ h => h) (Or.inl ⟨by rfl, ?_⟩) hHeld ?_
  rotate_left
  · (intro wx hSx; obtain ⟨⟨a0, a1, a2, a3, a4, a5⟩, _⟩ : (_ ∧ _) ∧ True := ⟨hSx.1, trivial⟩; go_simp; (try with_reducible rfl))
  (try simp only [Act.put, List.getElem_toArray, List.getElem_cons_succ, List.getElem_cons_zero, List.setIfInBounds_toArray, List.set_cons_succ, List.set_cons_zero])
  refine wpAnyH_take (i := 5) (v := ?_) rfl (by kernel_rfl) (by kernel_rfl) (by kernel_rfl) (fun _ _ _ h => h) (Or.inl ⟨by rfl, ?_⟩) hHeld ?_
  rotate_left
  · (intro wx hSx; obtain ⟨⟨a0, a1, a2, a3, a4, a5⟩, _⟩ : (_ ∧ _) ∧ True := ⟨hSx.1, trivial⟩; go_simp; (try with_reducible rfl))
  (try simp only [Act.put, List.getElem_toArray, List.getElem_cons_succ, List.getElem_cons_zero, List.setIfInBounds_toArray, List.set_cons_succ, List.set_cons_zero])
  refine wpAnyH_take (i := 6) (v := ?_) rfl (by kernel_rfl) (by kernel_rfl) (by kernel_rfl) (fun _ _ _ h => h) (Or.inl ⟨by rfl, ?_⟩) hHeld ?_
  rotate_left
  · (intro wx hSx; obtain ⟨⟨a0, a1, a2, a3, a4, a5⟩, _⟩ : (_ ∧ _) ∧ True := ⟨hSx.1, trivial⟩; go_simp; (try with_reducible rfl))
  (try simp only [Act.put, List.getElem_toArray, List.getElem_cons_succ, List.getElem_cons_zero, List.setIfInBounds_toArray, List.set_cons_succ, List.set_cons_zero])
  refine wpAnyH_take (i := 7) (v := ?_) rfl (by kernel_rfl) (by kernel_rfl) (by kernel_rfl) (fun _ _ _ h => h) (Or.inl ⟨by rfl, ?_⟩) hHeld ?_
  rotate_left
  · (intro wx hSx; obtain ⟨⟨a0, a1, a2, a3, a4, a5⟩, _⟩ : (_ ∧ _) ∧ True := ⟨hSx.1, trivial⟩; go_simp; (try with_reducible rfl))
  (try simp only [Act.put, List.getElem_toArray, List.getElem_cons_succ, List.getElem_cons_zero, List.setIfInBounds_toArray, List.set_cons_succ, List.set_cons_zero])
  refine wpAnyH_take (i := 8) (v := ?_) rfl (by kernel_rfl) (by kernel_rfl) (by kernel_rfl) (fun _ _ _ h => h) (Or.inl ⟨by rfl, ?_⟩) hHeld ?_
  rotate_left
  · (intro wx hSx; obtain ⟨⟨a0, a1, a2, a3, a4, a5⟩, _⟩ : (_ ∧ _) ∧ True := ⟨hSx.1, trivial⟩; go_simp; (try with_reducible rfl))
  (try simp only [Act.put, List.getElem_toArray, List.getElem_cons_succ, List.getElem_cons_zero, List.setIfInBounds_toArray, List.set_cons_succ, List.set_cons_zero])
  refine wpAnyH_take (i := 11) (v := ?_) rfl (by kernel_rfl) (by kernel_rfl) (by kernel_rfl) (fun _ _ _ h => h) (Or.inl ⟨by rfl, ?_⟩) hHeld ?_
  rotate_left
  · (intro wx hSx; obtain ⟨⟨a0, a1, a2, a3, a4, a5⟩, _⟩ : (_ ∧ _) ∧ True := ⟨hSx.1, trivial⟩; go_simp; (try with_reducible rfl))
  (try simp only [Act.put, List.getElem_toArray, List.getElem_cons_succ, List.getElem_cons_zero, List.setIfInBounds_toArray, List.set_cons_succ, List.set_cons_zero])
  refine wpAnyH_take (i := 12) (v := ?_) rfl (by kernel_rfl) (by kernel_rfl) (by kernel_rfl) (fun _ _ _ h => h) (Or.inl ⟨by rfl, ?_⟩) hHeld ?_
  rotate_left
  · (intro wx hSx; obtain ⟨⟨a0, a1, a2, a3, a4, a5⟩, _⟩ : (_ ∧ _) ∧ True := ⟨hSx.1, trivial⟩; go_simp; (try with_reducible rfl))
  (try simp only [Act.put, List.getElem_toArray, List.getElem_cons_succ, List.getElem_cons_zero, List.setIfInBounds_toArray, List.set_cons_succ, List.set_cons_zero])
  refine wpAnyH_ready (rs := [9]) (by kernel_rfl) (by simp) ?_
  refine AllReadyH.cons rfl (fun K hK => ?_) AllReadyH.nil
  rw [if_pos (by rfl)]
  go_simp
  refine (HRDY.out _ HH.out).mono ?_
  rintro e w1 ⟨rfl, hb1⟩
  have HH := Lib.hid (HH.out.next hb1)
  (try simp only [])
  refine hK.out _ _ HH.out (fun hHeld => ?_)
  clear hb1
  clear hK K
  (try simp only [Act.put, List.getElem_toArray, List.getElem_cons_succ, List.getElem_cons_zero, List.setIfInBounds_toArray, List.set_cons_succ, List.set_cons_zero])
  refine wpAnyH_take (i := 10) (v := ?_) rfl (by kernel_rfl) (by kernel_rfl) (by kernel_rfl) (fun _ _ _ h => h) (Or.inl ⟨by rfl, ?_⟩) hHeld ?_
  rotate_left
  · (intro wx hSx; obtain ⟨⟨a0, a1, a2, a3, a4, a5⟩, _⟩ : (_ ∧ _) ∧ True := ⟨hSx.1, trivial⟩; go_simp; (try with_reducible rfl))
  (try simp only [Act.put, List.getElem_toArray, List.getElem_cons_succ, List.getElem_cons_zero, List.setIfInBounds_toArray, List.set_cons_succ, List.set_cons_zero])
  refine wpAnyH_take (i := 13) (v := ?_) rfl (by kernel_rfl) (by kernel_rfl) (by kernel_rfl) (fun _ _ _ h => h) (Or.inl ⟨by rfl, ?_⟩) hHeld ?_
  rotate_left
  · (intro wx hSx; obtain ⟨⟨a0, a1, a2, a3, a4, a5⟩, _⟩ : (_ ∧ _) ∧ True := ⟨hSx.1, trivial⟩; go_simp; (try with_reducible rfl))
  (try simp only [Act.put, List.getElem_toArray, List.getElem_cons_succ, List.getElem_cons_zero, List.setIfInBounds_toArray, List.set_cons_succ, List.set_cons_zero])
  refine wpAnyH_take (i := 14) (v := ?_) rfl (by kernel_rfl) (by kernel_rfl) (by kernel_rfl) (fun _ _ _ h => h) (Or.inl ⟨by rfl, ?_⟩) hHeld ?_
  rotate_left
  · (intro wx hSx; obtain ⟨⟨a0, a1, a2, a3, a4, a5⟩, _⟩ : (_ ∧ _) ∧ True := ⟨hSx.1, trivial⟩; go_simp; (try with_reducible rfl))
  (try simp only [Act.put, List.getElem_toArray, List.getElem_cons_succ, List.getElem_cons_zero, List.setIfInBounds_toArray, List.set_cons_succ, List.set_cons_zero])
  refine wpAnyH_take (i := 15) (v := ?_) rfl (by kernel_rfl) (by kernel_rfl) (by kernel_rfl) (fun _ _ _ h => h) (Or.inl ⟨by rfl, ?_⟩) hHeld ?_
  rotate_left
  · (intro wx hSx; obtain ⟨⟨a0, a1, a2, a3, a4, a5⟩, _⟩ : (_ ∧ _) ∧ True := ⟨hSx.1, trivial⟩; go_simp; (try with_reducible rfl))
  (try simp only [Act.put, List.getElem_toArray, List.getElem_cons_succ, List.getElem_cons_zero, List.setIfInBounds_toArray, List.set_cons_succ, List.set_cons_zero])
  refine wpAnyH_done (by kernel_rfl) ?_ _
  clear hHeld
  by_cases s0 : r.st = 0
  · have HV2 : Hid (decide (okRc r) = false) := Lib.hid (decide_eq_false (fun h => by have h9 := HV.out.1 h; simp [stRc, HFI.out, HFU.out, s0] at h9))
    obtain ⟨a0, a1, a2, a3, a4, a5⟩ := HH.out.1
    rw [s0] at a0
    clear s0
    go_wp2
    go_ret
    exact ⟨by rw [HV2.out] <;> rfl, HH.out.2.2.2⟩
  by_cases s1 : r.st = 1
  · have HV2 : Hid (decide (okRc r) = false) := Lib.hid (decide_eq_false (fun h => by have h9 := HV.out.1 h; simp [stRc, HFI.out, HFU.out, s1] at h9))
    obtain ⟨a0, a1, a2, a3, a4, a5⟩ := HH.out.1
    rw [s1] at a0
    clear s1 s0
    go_wp2
    go_ret
    exact ⟨by rw [HV2.out] <;> rfl, HH.out.2.2.2⟩
  by_cases s2 : r.st = 2
  · have HV2 : Hid (decide (okRc r) = decide (r.code = 0)) := Lib.hid (decide_eq_decide.2 (HV.out.trans (by simp [stRc, HFI.out, HFU.out, s2])))
    obtain ⟨a0, a1, a2, a3, a4, a5⟩ := HH.out.1
    rw [s2] at a0
    clear s2 s0 s1
    go_wp2
    go_ret
    exact ⟨by rw [HV2.out] <;> rfl, HH.out.2.2.2⟩
  by_cases s3 : r.st = 3
  · by_cases c0 : r.buf.chs = []
    · have HV2 : Hid (decide (okRc r) = decide (r.code = 0)) := Lib.hid (decide_eq_decide.2 (HV.out.trans (by simp [stRc, HFI.out, HFU.out, s3, c0])))
      have z0 : ((r.buf.chs.length : Int) == 0) = true := by simp [c0]
      clear c0
      obtain ⟨a0, a1, a2, a3, a4, a5⟩ := HH.out.1
      rw [s3] at a0
      clear s3 s0 s1 s2
      go_wp2
      go_ret
      exact ⟨by rw [HV2.out] <;> rfl, HH.out.2.2.2⟩
    · have HV2 : Hid (decide (okRc r) = false) := Lib.hid (decide_eq_false (fun h => by have h9 := HV.out.1 h; simp [stRc, HFI.out, HFU.out, s3, c0] at h9))
      have z0 : ((r.buf.chs.length : Int) == 0) = false := by simpa using c0
      clear c0
      obtain ⟨a0, a1, a2, a3, a4, a5⟩ := HH.out.1
      rw [s3] at a0
      clear s3 s0 s1 s2
      go_wp2
      go_ret
      exact ⟨by rw [HV2.out] <;> rfl, HH.out.2.2.2⟩
  by_cases s4 : r.st = 4
  · by_cases c0 : r.hi = r.fin
    · by_cases c1 : r.buf.chs = []
      · have HV2 : Hid (decide (okRc r) = decide (True)) := Lib.hid (decide_eq_decide.2 (HV.out.trans (by simp [stRc, HFI.out, HFU.out, s4, c0, c1])))
        have z0 : (r.hi == r.fin) = true := by simpa using c0
        have z1 : ((r.buf.chs.length : Int) == 0) = true := by simp [c1]
        clear c0 c1
        obtain ⟨a0, a1, a2, a3, a4, a5⟩ := HH.out.1
        rw [s4] at a0
        clear s4 s0 s1 s2 s3
        go_wp2
        go_ret
        exact ⟨by rw [HV2.out] <;> rfl, HH.out.2.2.2⟩
      · have HV2 : Hid (decide (okRc r) = false) := Lib.hid (decide_eq_false (fun h => by have h9 := HV.out.1 h; simp [stRc, HFI.out, HFU.out, s4, c0, c1] at h9))
        have z0 : (r.hi == r.fin) = true := by simpa using c0
        have z1 : ((r.buf.chs.length : Int) == 0) = false := by simpa using c1
        clear c0 c1
        obtain ⟨a0, a1, a2, a3, a4, a5⟩ := HH.out.1
        rw [s4] at a0
        clear s4 s0 s1 s2 s3
        go_wp2
        go_ret
        exact ⟨by rw [HV2.out] <;> rfl, HH.out.2.2.2⟩
    · have HV2 : Hid (decide (okRc r) = false) := Lib.hid (decide_eq_false (fun h => by have h9 := HV.out.1 h; simp [stRc, HFI.out, HFU.out, s4, c0] at h9))
      have z0 : (r.hi == r.fin) = false := by simpa using c0
      clear c0
      obtain ⟨a0, a1, a2, a3, a4, a5⟩ := HH.out.1
      rw [s4] at a0
      clear s4 s0 s1 s2 s3
      go_wp2
      go_ret
      exact ⟨by rw [HV2.out] <;> rfl, HH.out.2.2.2⟩
  by_cases s5 : r.st = 5
  · by_cases c0 : r.hi = r.fin
    · by_cases c1 : r.buf.chs = []
      · have HV2 : Hid (decide (okRc r) = decide (True)) := Lib.hid (decide_eq_decide.2 (HV.out.trans (by simp [stRc, HFI.out, HFU.out, s5, c0, c1])))
        have z0 : (r.hi == r.fin) = true := by simpa using c0
        have z1 : ((r.buf.chs.length : Int) == 0) = true := by simp [c1]
        clear c0 c1
        obtain ⟨a0, a1, a2, a3, a4, a5⟩ := HH.out.1
        rw [s5] at a0
        clear s5 s0 s1 s2 s3 s4
        go_wp2
        go_ret
        exact ⟨by rw [HV2.out] <;> rfl, HH.out.2.2.2⟩
      · have HV2 : Hid (decide (okRc r) = false) := Lib.hid (decide_eq_false (fun h => by have h9 := HV.out.1 h; simp [stRc, HFI.out, HFU.out, s5, c0, c1] at h9))
        have z0 : (r.hi == r.fin) = true := by simpa using c0
        have z1 : ((r.buf.chs.length : Int) == 0) = false := by simpa using c1
        clear c0 c1
        obtain ⟨a0, a1, a2, a3, a4, a5⟩ := HH.out.1
        rw [s5] at a0
        clear s5 s0 s1 s2 s3 s4
        go_wp2
        go_ret
        exact ⟨by rw [HV2.out] <;> rfl, HH.out.2.2.2⟩
    · have HV2 : Hid (decide (okRc r) = false) := Lib.hid (decide_eq_false (fun h => by have h9 := HV.out.1 h; simp [stRc, HFI.out, HFU.out, s5, c0] at h9))
      have z0 : (r.hi == r.fin) = false := by simpa using c0
      clear c0
      obtain ⟨a0, a1, a2, a3, a4, a5⟩ := HH.out.1
      rw [s5] at a0
      clear s5 s0 s1 s2 s3 s4
      go_wp2
      go_ret
      exact ⟨by rw [HV2.out] <;> rfl, HH.out.2.2.2⟩
  have HV2 : Hid (decide (okRc r) = false) := Lib.hid (decide_eq_false (fun h => by have h9 := HV.out.1 h; simp [stRc, HFI.out, HFU.out, s0, s1, s2, s3, s4, s5] at h9))
  obtain ⟨a0, a1, a2, a3, a4, a5⟩ := HH.out.1
  have t0 : (r.st == 0) = false := by simpa using s0
  have t1 : (r.st == 1) = false := by simpa using s1
  have t2 : (r.st == 2) = false := by simpa using s2
  have t3 : (r.st == 3) = false := by simpa using s3
  have t4 : (r.st == 4) = false := by simpa using s4
  have t5 : (r.st == 5) = false := by simpa using s5
  clear s0 s1 s2 s3 s4 s5
  go_wp2
  go_ret
  exact ⟨by rw [HV2.out] <;> rfl, HH.out.2.2.2⟩
set_option maxRecDepth 100000 in
set_option maxHeartbeats 4000000 in
/-- Not all has come. -/
theorem sisrc_some (r : Rc) (A : Option Addr) (cap B : Nat) (w : World) (hB : B ≤ w.heap.size) (hr : Chs w B A r.buf.chs) (hn : r.buf.chs.length ≤ 1000000000) (hi : inB r.buf.chs) (hx : inRc r) (h0 : okB r.buf) (h1 : 0 ≤ r.hi ∧ r.hi ≤ 4611686018427387903) (h2 : ¬ (r.hi < endB r.buf)) (h3 : 0 ≤ r.code ∧ r.code ≤ 4611686018427387903) (hf : r.fin ≠ -1) (h5 : ¬ r.fin < r.hi) (h6 : r.fin ≤ 4611686018427387903) (hfull : ¬ fullRc r) (hh : headRc r) :
    Calls Try.prog 19 #[rcV r (.slice A r.buf.chs.length cap)] w fun e w' => e = .returned (.bool (decide (okRc r))) ∧ Below w.heap.size w w' := by
  have HH := Lib.hid (InRc.start w r A cap 28 (hr.wide hB)).drew
  have HISB : Hid (∀ W, InRc w w.heap.size r A cap W → Calls Try.prog 50 #[bfV r.buf.next (.slice A r.buf.chs.length cap)] W fun e w' => e = .returned (.bool (decide (okB r.buf))) ∧ Below W.heap.size W w') := Lib.hid fun W h => sisb r.buf A cap w.heap.size W (Nat.le_of_lt h.2.2.1) h.2.1 hn hi hx.2.1
  have HEND : Hid (∀ W, InRc w w.heap.size r A cap W → Calls Try.prog 51 #[bfV r.buf.next (.slice A r.buf.chs.length cap)] W fun e w' => e = .returned (.int .i64 (endB r.buf)) ∧ Below W.heap.size W w') := Lib.hid fun W h => sendof r.buf A cap w.heap.size W (Nat.le_of_lt h.2.2.1) h.2.1 hn hi hx.2.1
  have HRDY : Hid (∀ W, InRc w w.heap.size r A cap W → Calls Try.prog 52 #[bfV r.buf.next (.slice A r.buf.chs.length cap)] W fun e w' => e = .returned (.int .i64 (rdyB r.buf : Nat)) ∧ Below W.heap.size W w') := Lib.hid fun W h => sready r.buf A cap w.heap.size W (Nat.le_of_lt h.2.2.1) h.2.1 hn hi hx.2.1
  have HQH : Hid (∀ W, InRc w w.heap.size r A cap W → Calls Try.prog 47 #[.int .i64 r.hi] W fun e w' => e = .returned (.bool (decide (0 ≤ r.hi ∧ r.hi ≤ 4611686018427387903))) ∧ Below W.heap.size W w') := Lib.hid fun W _ => squicW r.hi W
  have HQC : Hid (∀ W, InRc w w.heap.size r A cap W → Calls Try.prog 47 #[.int .i64 r.code] W fun e w' => e = .returned (.bool (decide (0 ≤ r.code ∧ r.code ≤ 4611686018427387903))) ∧ Below W.heap.size W w') := Lib.hid fun W _ => squicW r.code W
  have HV : Hid (okRc r ↔ stRc r) := Lib.hid ⟨fun h => h.2, fun h => ⟨hh, h⟩⟩
  have hw : IntKind.i64.wrap (r.buf.next + (rdyB r.buf : Int)) = r.buf.next + (rdyB r.buf : Int) := by rw [IntKind.wrap_i64]; have h9 := rdyB_le h0; have := h0.2.1; have := hx.2.2.2.1.2; clear hx; omega
  have hfl : (r.buf.next + (rdyB r.buf : Int) == r.fin) = false := by simpa [fullRc, hf] using hfull
  have d5 : decide (r.fin < r.hi) = false := decide_eq_false h5
  rw [decide_eq_true h0] at HISB
  rw [decide_eq_true h1] at HQH
  have d2 : decide (r.hi < endB r.buf) = false := decide_eq_false h2
  rw [decide_eq_true h3] at HQC
  have f0 : (r.fin == -1) = false := by simpa using hf
  have f1 : (r.fin != -1) = true := by simpa using hf
  have d6 : decide (4611686018427387903 < r.fin) = false := decide_eq_false (by omega)
  have d7 : decide (r.fin < -1) = false := decide_eq_false (by omega)
  have HFU := Lib.hid hfull
  have HFI := Lib.hid hf
  clear hh hfull h0 h1 h2 h3 hf h5 h6
  clear hr hi hx hn
  go_enter Try.func19, Try.ntmps19
  go_wp2
  refine wp_region_held_drew (S := (InRc w w.heap.size r A cap)) (by kernel_rfl) HH.out (fun hHeld => ?_)
  refine wpAnyH_take (i := 0) (v := ?_) rfl (by kernel_rfl) (by kernel_rfl) (by kernel_rfl) (fun _ _ _ h => h) (Or.inl ⟨by rfl, ?_⟩) hHeld ?_
  rotate_left
  · (intro wx hSx; obtain ⟨⟨a0, a1, a2, a3, a4, a5⟩, _⟩ : (_ ∧ _) ∧ True := ⟨hSx.1, trivial⟩; go_simp; (try with_reducible rfl))
  (try simp only [Act.put, List.getElem_toArray, List.getElem_cons_zero, List.setIfInBounds_toArray, List.set_cons_succ, List.set_cons_zero])
  refine wpAnyH_take (i := 1) (v := ?_) rfl (by kernel_rfl) (by kernel_rfl) (by kernel_rfl) (fun _ _ _ h => h) (Or.inl ⟨by rfl, ?_⟩) hHeld ?_
  rotate_left
  · (intro wx hSx; obtain ⟨⟨a0, a1, a2, a3, a4, a5⟩, _⟩ : (_ ∧ _) ∧ True := ⟨hSx.1, trivial⟩; go_simp; (try with_reducible rfl))
  (try simp only [Act.put, List.getElem_toArray, List.getElem_cons_succ, List.getElem_cons_zero, List.setIfInBounds_toArray, List.set_cons_succ, List.set_cons_zero])
  refine wpAnyH_ready (rs := [2]) (by kernel_rfl) (by simp) ?_
  refine AllReadyH.cons rfl (fun K hK => ?_) AllReadyH.nil
  rw [if_pos (by rfl)]
  go_simp
  refine (HISB.out _ HH.out).mono ?_
  rintro e w1 ⟨rfl, hb1⟩
  have HH := Lib.hid (HH.out.next hb1)
  (try simp only [])
  refine hK.out _ _ HH.out (fun hHeld => ?_)
  clear hb1
  clear hK K
  (try simp only [Act.put, List.getElem_toArray, List.getElem_cons_succ, List.getElem_cons_zero, List.setIfInBounds_toArray, List.set_cons_succ, List.set_cons_zero])
  refine wpAnyH_take (i := 3) (v := ?_) rfl (by kernel_rfl) (by kernel_rfl) (by kernel_rfl) (fun _ _ _ h => h) (Or.inl ⟨by rfl, ?_⟩) hHeld ?_
  rotate_left
  · (intro wx hSx; obtain ⟨⟨a0, a1, a2, a3, a4, a5⟩, _⟩ : (_ ∧ _) ∧ True := ⟨hSx.1, trivial⟩; go_simp; (try with_reducible rfl))
  (try simp only [Act.put, List.getElem_toArray, List.getElem_cons_succ, List.getElem_cons_zero, List.setIfInBounds_toArray, List.set_cons_succ, List.set_cons_zero])
  refine wpAnyH_take (i := 4) (v := ?_) rfl (by kernel_rfl) (by kernel_rfl) (by kernel_rfl) (fun _ _ _ h => h) (Or.inl ⟨by rfl, ?_⟩) hHeld ?_
  rotate_left
  · (intro wx hSx; obtain ⟨⟨a0, a1, a2, a3, a4, a5⟩, _⟩ : (_ ∧ _) ∧ True := ⟨hSx.1, trivial⟩; go_simp; (try with_reducible rfl))
  (try simp only [Act.put, List.getElem_toArray, List.getElem_cons_succ, List.getElem_cons_zero, List.setIfInBounds_toArray, List.set_cons_succ, List.set_cons_zero])
  refine wpAnyH_take (i := 5) (v := ?_) rfl (by kernel_rfl) (by kernel_rfl) (by kernel_rfl) (fun _ _ _ h => h) (Or.inl ⟨by rfl, ?_⟩) hHeld ?_
  rotate_left
  · (intro wx hSx; obtain ⟨⟨a0, a1, a2, a3, a4, a5⟩, _⟩ : (_ ∧ _) ∧ True := ⟨hSx.1, trivial⟩; go_simp; (try with_reducible rfl))
  (try simp only [Act.put, List.getElem_toArray, List.getElem_cons_succ, List.getElem_cons_zero, List.setIfInBounds_toArray, List.set_cons_succ, List.set_cons_zero])
  refine wpAnyH_take (i := 6) (v := ?_) rfl (by kernel_rfl) (by kernel_rfl) (by kernel_rfl) (fun _ _ _ h => h) (Or.inl ⟨by rfl, ?_⟩) hHeld ?_
  rotate_left
  · (intro wx hSx; obtain ⟨⟨a0, a1, a2, a3, a4, a5⟩, _⟩ : (_ ∧ _) ∧ True := ⟨hSx.1, trivial⟩; go_simp; (try with_reducible rfl))
  (try simp only [Act.put, List.getElem_toArray, List.getElem_cons_succ, List.getElem_cons_zero, List.setIfInBounds_toArray, List.set_cons_succ, List.set_cons_zero])
  refine wpAnyH_ready (rs := [7]) (by kernel_rfl) (by simp) ?_
  refine AllReadyH.cons rfl (fun K hK => ?_) AllReadyH.nil
  rw [if_pos (by rfl)]
  go_simp
  refine (HQH.out _ HH.out).mono ?_
  rintro e w1 ⟨rfl, hb1⟩
  have HH := Lib.hid (HH.out.next hb1)
  (try simp only [])
  refine hK.out _ _ HH.out (fun hHeld => ?_)
  clear hb1
  clear hK K
  (try simp only [Act.put, List.getElem_toArray, List.getElem_cons_succ, List.getElem_cons_zero, List.setIfInBounds_toArray, List.set_cons_succ, List.set_cons_zero])
  refine wpAnyH_take (i := 8) (v := ?_) rfl (by kernel_rfl) (by kernel_rfl) (by kernel_rfl) (fun _ _ _ h => h) (Or.inl ⟨by rfl, ?_⟩) hHeld ?_
  rotate_left
  · (intro wx hSx; obtain ⟨⟨a0, a1, a2, a3, a4, a5⟩, _⟩ : (_ ∧ _) ∧ True := ⟨hSx.1, trivial⟩; go_simp; (try with_reducible rfl))
  (try simp only [Act.put, List.getElem_toArray, List.getElem_cons_succ, List.getElem_cons_zero, List.setIfInBounds_toArray, List.set_cons_succ, List.set_cons_zero])
  refine wpAnyH_take (i := 9) (v := ?_) rfl (by kernel_rfl) (by kernel_rfl) (by kernel_rfl) (fun _ _ _ h => h) (Or.inl ⟨by rfl, ?_⟩) hHeld ?_
  rotate_left
  · (intro wx hSx; obtain ⟨⟨a0, a1, a2, a3, a4, a5⟩, _⟩ : (_ ∧ _) ∧ True := ⟨hSx.1, trivial⟩; go_simp; (try with_reducible rfl))
  (try simp only [Act.put, List.getElem_toArray, List.getElem_cons_succ, List.getElem_cons_zero, List.setIfInBounds_toArray, List.set_cons_succ, List.set_cons_zero])
  refine wpAnyH_take (i := 10) (v := ?_) rfl (by kernel_rfl) (by kernel_rfl) (by kernel_rfl) (fun _ _ _ h => h) (Or.inl ⟨by rfl, ?_⟩) hHeld ?_
  rotate_left
  · (intro wx hSx; obtain ⟨⟨a0, a1, a2, a3, a4, a5⟩, _⟩ : (_ ∧ _) ∧ True := ⟨hSx.1, trivial⟩; go_simp; (try with_reducible rfl))
  (try simp only [Act.put, List.getElem_toArray, List.getElem_cons_succ, List.getElem_cons_zero, List.setIfInBounds_toArray, List.set_cons_succ, List.set_cons_zero])
  refine wpAnyH_take (i := 11) (v := ?_) rfl (by kernel_rfl) (by kernel_rfl) (by kernel_rfl) (fun _ _ _ h => h) (Or.inl ⟨by rfl, ?_⟩) hHeld ?_
  rotate_left
  · (intro wx hSx; obtain ⟨⟨a0, a1, a2, a3, a4, a5⟩, _⟩ : (_ ∧ _) ∧ True := ⟨hSx.1, trivial⟩; go_simp; (try with_reducible rfl))
  (try simp only [Act.put, List.getElem_toArray, List.getElem_cons_succ, List.getElem_cons_zero, List.setIfInBounds_toArray, List.set_cons_succ, List.set_cons_zero])
  refine wpAnyH_take (i := 12) (v := ?_) rfl (by kernel_rfl) (by kernel_rfl) (by kernel_rfl) (fun _ _ _ h => h) (Or.inl ⟨by rfl, ?_⟩) hHeld ?_
  rotate_left
  · (intro wx hSx; obtain ⟨⟨a0, a1, a2, a3, a4, a5⟩, _⟩ : (_ ∧ _) ∧ True := ⟨hSx.1, trivial⟩; go_simp; (try with_reducible rfl))
  (try simp only [Act.put, List.getElem_toArray, List.getElem_cons_succ, List.getElem_cons_zero, List.setIfInBounds_toArray, List.set_cons_succ, List.set_cons_zero])
  refine wpAnyH_take (i := 14) (v := ?_) rfl (by kernel_rfl) (by kernel_rfl) (by kernel_rfl) (fun _ _ _ h => h) (Or.inl ⟨by rfl, ?_⟩) hHeld ?_
  rotate_left
  · (intro wx hSx; obtain ⟨⟨a0, a1, a2, a3, a4, a5⟩, _⟩ : (_ ∧ _) ∧ True := ⟨hSx.1, trivial⟩; go_simp; (try with_reducible rfl))
  (try simp only [Act.put, List.getElem_toArray, List.getElem_cons_succ, List.getElem_cons_zero, List.setIfInBounds_toArray, List.set_cons_succ, List.set_cons_zero])
  refine wpAnyH_take (i := 15) (v := ?_) rfl (by kernel_rfl) (by kernel_rfl) (by kernel_rfl) (fun _ _ _ h => h) (Or.inl ⟨by rfl, ?_⟩) hHeld ?_
  rotate_left
  · (intro wx hSx; obtain ⟨⟨a0, a1, a2, a3, a4, a5⟩, _⟩ : (_ ∧ _) ∧ True := ⟨hSx.1, trivial⟩; go_simp; (try with_reducible rfl))
  (try simp only [Act.put, List.getElem_toArray, List.getElem_cons_succ, List.getElem_cons_zero, List.setIfInBounds_toArray, List.set_cons_succ, List.set_cons_zero])
  refine wpAnyH_ready (rs := [13]) (by kernel_rfl) (by simp) ?_
  refine AllReadyH.cons rfl (fun K hK => ?_) AllReadyH.nil
  rw [if_pos (by rfl)]
  go_simp
  refine (HEND.out _ HH.out).mono ?_
  rintro e w1 ⟨rfl, hb1⟩
  have HH := Lib.hid (HH.out.next hb1)
  (try simp only [])
  refine hK.out _ _ HH.out (fun hHeld => ?_)
  clear hb1
  clear hK K
  (try simp only [Act.put, List.getElem_toArray, List.getElem_cons_succ, List.getElem_cons_zero, List.setIfInBounds_toArray, List.set_cons_succ, List.set_cons_zero])
  refine wpAnyH_take (i := 16) (v := ?_) rfl (by kernel_rfl) (by kernel_rfl) (by kernel_rfl) (fun _ _ _ h => h) (Or.inl ⟨by rfl, ?_⟩) hHeld ?_
  rotate_left
  · (intro wx hSx; obtain ⟨⟨a0, a1, a2, a3, a4, a5⟩, _⟩ : (_ ∧ _) ∧ True := ⟨hSx.1, trivial⟩; go_simp; (try with_reducible rfl))
  (try simp only [Act.put, List.getElem_toArray, List.getElem_cons_succ, List.getElem_cons_zero, List.setIfInBounds_toArray, List.set_cons_succ, List.set_cons_zero])
  refine wpAnyH_take (i := 17) (v := ?_) rfl (by kernel_rfl) (by kernel_rfl) (by kernel_rfl) (fun _ _ _ h => h) (Or.inl ⟨by rfl, ?_⟩) hHeld ?_
  rotate_left
  · (intro wx hSx; obtain ⟨⟨a0, a1, a2, a3, a4, a5⟩, _⟩ : (_ ∧ _) ∧ True := ⟨hSx.1, trivial⟩; go_simp; (try with_reducible rfl))
  (try simp only [Act.put, List.getElem_toArray, List.getElem_cons_succ, List.getElem_cons_zero, List.setIfInBounds_toArray, List.set_cons_succ, List.set_cons_zero])
  refine wpAnyH_take (i := 18) (v := ?_) rfl (by kernel_rfl) (by kernel_rfl) (by kernel_rfl) (fun _ _ _ h => h) (Or.inl ⟨by rfl, ?_⟩) hHeld ?_
  rotate_left
  · (intro wx hSx; obtain ⟨⟨a0, a1, a2, a3, a4, a5⟩, _⟩ : (_ ∧ _) ∧ True := ⟨hSx.1, trivial⟩; go_simp; (try with_reducible rfl))
  (try simp only [Act.put, List.getElem_toArray, List.getElem_cons_succ, List.getElem_cons_zero, List.setIfInBounds_toArray, List.set_cons_succ, List.set_cons_zero])
  refine wpAnyH_take (i := 19) (v := ?_) rfl (by kernel_rfl) (by kernel_rfl) (by kernel_rfl) (fun _ _ _ h => h) (Or.inl ⟨by rfl, ?_⟩) hHeld ?_
  rotate_left
  · (intro wx hSx; obtain ⟨⟨a0, a1, a2, a3, a4, a5⟩, _⟩ : (_ ∧ _) ∧ True := ⟨hSx.1, trivial⟩; go_simp; (try with_reducible rfl))
  (try simp only [Act.put, List.getElem_toArray, List.getElem_cons_succ, List.getElem_cons_zero, List.setIfInBounds_toArray, List.set_cons_succ, List.set_cons_zero])
  refine wpAnyH_take (i := 20) (v := ?_) rfl (by kernel_rfl) (by kernel_rfl) (by kernel_rfl) (fun _ _ _ h => h) (Or.inl ⟨by rfl, ?_⟩) hHeld ?_
  rotate_left
  · (intro wx hSx; obtain ⟨⟨a0, a1, a2, a3, a4, a5⟩, _⟩ : (_ ∧ _) ∧ True := ⟨hSx.1, trivial⟩; go_simp; (try with_reducible rfl))
  (try simp only [Act.put, List.getElem_toArray, List.getElem_cons_succ, List.getElem_cons_zero, List.setIfInBounds_toArray, List.set_cons_succ, List.set_cons_zero])
  refine wpAnyH_ready (rs := [21]) (by kernel_rfl) (by simp) ?_
  refine AllReadyH.cons rfl (fun K hK => ?_) AllReadyH.nil
  rw [if_pos (by rfl)]
  go_simp
  refine (HQC.out _ HH.out).mono ?_
  rintro e w1 ⟨rfl, hb1⟩
  have HH := Lib.hid (HH.out.next hb1)
  (try simp only [])
  refine hK.out _ _ HH.out (fun hHeld => ?_)
  clear hb1
  clear hK K
  (try simp only [Act.put, List.getElem_toArray, List.getElem_cons_succ, List.getElem_cons_zero, List.setIfInBounds_toArray, List.set_cons_succ, List.set_cons_zero])
  refine wpAnyH_take (i := 22) (v := ?_) rfl (by kernel_rfl) (by kernel_rfl) (by kernel_rfl) (fun _ _ _ h => h) (Or.inl ⟨by rfl, ?_⟩) hHeld ?_
  rotate_left
  · (intro wx hSx; obtain ⟨⟨a0, a1, a2, a3, a4, a5⟩, _⟩ : (_ ∧ _) ∧ True := ⟨hSx.1, trivial⟩; go_simp; (try with_reducible rfl))
  (try simp only [Act.put, List.getElem_toArray, List.getElem_cons_succ, List.getElem_cons_zero, List.setIfInBounds_toArray, List.set_cons_succ, List.set_cons_zero])
  refine wpAnyH_take (i := 23) (v := ?_) rfl (by kernel_rfl) (by kernel_rfl) (by kernel_rfl) (fun _ _ _ h => h) (Or.inl ⟨by rfl, ?_⟩) hHeld ?_
  rotate_left
  · (intro wx hSx; obtain ⟨⟨a0, a1, a2, a3, a4, a5⟩, _⟩ : (_ ∧ _) ∧ True := ⟨hSx.1, trivial⟩; go_simp; (try with_reducible rfl))
  (try simp only [Act.put, List.getElem_toArray, List.getElem_cons_succ, List.getElem_cons_zero, List.setIfInBounds_toArray, List.set_cons_succ, List.set_cons_zero])
  refine wpAnyH_take (i := 24) (v := ?_) rfl (by kernel_rfl) (by kernel_rfl) (by kernel_rfl) (fun _ _ _ h => h) (Or.inl ⟨by rfl, ?_⟩) hHeld ?_
  rotate_left
  · (intro wx hSx; obtain ⟨⟨a0, a1, a2, a3, a4, a5⟩, _⟩ : (_ ∧ _) ∧ True := ⟨hSx.1, trivial⟩; go_simp; (try with_reducible rfl))
  (try simp only [Act.put, List.getElem_toArray, List.getElem_cons_succ, List.getElem_cons_zero, List.setIfInBounds_toArray, List.set_cons_succ, List.set_cons_zero])
  refine wpAnyH_take (i := 25) (v := ?_) rfl (by kernel_rfl) (by kernel_rfl) (by kernel_rfl) (fun _ _ _ h => h) (Or.inl ⟨by rfl, ?_⟩) hHeld ?_
  rotate_left
  · (intro wx hSx; obtain ⟨⟨a0, a1, a2, a3, a4, a5⟩, _⟩ : (_ ∧ _) ∧ True := ⟨hSx.1, trivial⟩; go_simp; (try with_reducible rfl))
  (try simp only [Act.put, List.getElem_toArray, List.getElem_cons_succ, List.getElem_cons_zero, List.setIfInBounds_toArray, List.set_cons_succ, List.set_cons_zero])
  refine wpAnyH_take (i := 26) (v := ?_) rfl (by kernel_rfl) (by kernel_rfl) (by kernel_rfl) (fun _ _ _ h => h) (Or.inl ⟨by rfl, ?_⟩) hHeld ?_
  rotate_left
  · (intro wx hSx; obtain ⟨⟨a0, a1, a2, a3, a4, a5⟩, _⟩ : (_ ∧ _) ∧ True := ⟨hSx.1, trivial⟩; go_simp; (try with_reducible rfl))
  (try simp only [Act.put, List.getElem_toArray, List.getElem_cons_succ, List.getElem_cons_zero, List.setIfInBounds_toArray, List.set_cons_succ, List.set_cons_zero])
  refine wpAnyH_take (i := 27) (v := ?_) rfl (by kernel_rfl) (by kernel_rfl) (by kernel_rfl) (fun _ _ _ h => h) (Or.inl ⟨by rfl, ?_⟩) hHeld ?_
  rotate_left
  · (intro wx hSx; obtain ⟨⟨a0, a1, a2, a3, a4, a5⟩, _⟩ : (_ ∧ _) ∧ True := ⟨hSx.1, trivial⟩; go_simp; (try with_reducible rfl))
  (try simp only [Act.put, List.getElem_toArray, List.getElem_cons_succ, List.getElem_cons_zero, List.setIfInBounds_toArray, List.set_cons_succ, List.set_cons_zero])
  refine wpAnyH_take (i := 28) (v := ?_) rfl (by kernel_rfl) (by kernel_rfl) (by kernel_rfl) (fun _ _ _ h => h) (Or.inl ⟨by rfl, ?_⟩) hHeld ?_
  rotate_left
  · (intro wx hSx; obtain ⟨⟨a0, a1, a2, a3, a4, a5⟩, _⟩ : (_ ∧ _) ∧ True := ⟨hSx.1, trivial⟩; go_simp; (try with_reducible rfl))
  (try simp only [Act.put, List.getElem_toArray, List.getElem_cons_succ, List.getElem_cons_zero, List.setIfInBounds_toArray, List.set_cons_succ, List.set_cons_zero])
  refine wpAnyH_take (i := 29) (v := ?_) rfl (by kernel_rfl) (by kernel_rfl) (by kernel_rfl) (fun _ _ _ h => h) (Or.inl ⟨by rfl, ?_⟩) hHeld ?_
  rotate_left
  · (intro wx hSx; obtain ⟨⟨a0, a1, a2, a3, a4, a5⟩, _⟩ : (_ ∧ _) ∧ True := ⟨hSx.1, trivial⟩; go_simp; (try with_reducible rfl))
  (try simp only [Act.put, List.getElem_toArray, List.getElem_cons_succ, List.getElem_cons_zero, List.setIfInBounds_toArray, List.set_cons_succ, List.set_cons_zero])
  refine wpAnyH_take (i := 30) (v := ?_) rfl (by kernel_rfl) (by kernel_rfl) (by kernel_rfl) (fun _ _ _ h => h) (Or.inl ⟨by rfl, ?_⟩) hHeld ?_
  rotate_left
  · (intro wx hSx; obtain ⟨⟨a0, a1, a2, a3, a4, a5⟩, _⟩ : (_ ∧ _) ∧ True := ⟨hSx.1, trivial⟩; go_simp; (try with_reducible rfl))
  (try simp only [Act.put, List.getElem_toArray, List.getElem_cons_succ, List.getElem_cons_zero, List.setIfInBounds_toArray, List.set_cons_succ, List.set_cons_zero])
  refine wpAnyH_take (i := 31) (v := ?_) rfl (by kernel_rfl) (by kernel_rfl) (by kernel_rfl) (fun _ _ _ h => h) (Or.inl ⟨by rfl, ?_⟩) hHeld ?_
  rotate_left
  · (intro wx hSx; obtain ⟨⟨a0, a1, a2, a3, a4, a5⟩, _⟩ : (_ ∧ _) ∧ True := ⟨hSx.1, trivial⟩; go_simp; (try with_reducible rfl))
  (try simp only [Act.put, List.getElem_toArray, List.getElem_cons_succ, List.getElem_cons_zero, List.setIfInBounds_toArray, List.set_cons_succ, List.set_cons_zero])
  refine wpAnyH_take (i := 32) (v := ?_) rfl (by kernel_rfl) (by kernel_rfl) (by kernel_rfl) (fun _ _ _ h => h) (Or.inl ⟨by rfl, ?_⟩) hHeld ?_
  rotate_left
  · (intro wx hSx; obtain ⟨⟨a0, a1, a2, a3, a4, a5⟩, _⟩ : (_ ∧ _) ∧ True := ⟨hSx.1, trivial⟩; go_simp; (try with_reducible rfl))
  (try simp only [Act.put, List.getElem_toArray, List.getElem_cons_succ, List.getElem_cons_zero, List.setIfInBounds_toArray, List.set_cons_succ, List.set_cons_zero])
  refine wpAnyH_take (i := 33) (v := ?_) rfl (by kernel_rfl) (by kernel_rfl) (by kernel_rfl) (fun _ _ _ h => h) (Or.inl ⟨by rfl, ?_⟩) hHeld ?_
  rotate_left
  · (intro wx hSx; obtain ⟨⟨a0, a1, a2, a3, a4, a5⟩, _⟩ : (_ ∧ _) ∧ True := ⟨hSx.1, trivial⟩; go_simp; (try with_reducible rfl))
  (try simp only [Act.put, List.getElem_toArray, List.getElem_cons_succ, List.getElem_cons_zero, List.setIfInBounds_toArray, List.set_cons_succ, List.set_cons_zero])
  refine wpAnyH_take (i := 34) (v := ?_) rfl (by kernel_rfl) (by kernel_rfl) (by kernel_rfl) (fun _ _ _ h => h) (Or.inl ⟨by rfl, ?_⟩) hHeld ?_
  rotate_left
  · (intro wx hSx; obtain ⟨⟨a0, a1, a2, a3, a4, a5⟩, _⟩ : (_ ∧ _) ∧ True := ⟨hSx.1, trivial⟩; go_simp; (try with_reducible rfl))
  (try simp only [Act.put, List.getElem_toArray, List.getElem_cons_succ, List.getElem_cons_zero, List.setIfInBounds_toArray, List.set_cons_succ, List.set_cons_zero])
  refine wpAnyH_take (i := 35) (v := ?_) rfl (by kernel_rfl) (by kernel_rfl) (by kernel_rfl) (fun _ _ _ h => h) (Or.inl ⟨by rfl, ?_⟩) hHeld ?_
  rotate_left
  · (intro wx hSx; obtain ⟨⟨a0, a1, a2, a3, a4, a5⟩, _⟩ : (_ ∧ _) ∧ True := ⟨hSx.1, trivial⟩; go_simp; (try with_reducible rfl))
  (try simp only [Act.put, List.getElem_toArray, List.getElem_cons_succ, List.getElem_cons_zero, List.setIfInBounds_toArray, List.set_cons_succ, List.set_cons_zero])
  refine wpAnyH_take (i := 36) (v := ?_) rfl (by kernel_rfl) (by kernel_rfl) (by kernel_rfl) (fun _ _ _ h => h) (Or.inl ⟨by rfl, ?_⟩) hHeld ?_
  rotate_left
  · (intro wx hSx; obtain ⟨⟨a0, a1, a2, a3, a4, a5⟩, _⟩ : (_ ∧ _) ∧ True := ⟨hSx.1, trivial⟩; go_simp; (try with_reducible rfl))
  (try simp only [Act.put, List.getElem_toArray, List.getElem_cons_succ, List.getElem_cons_zero, List.setIfInBounds_toArray, List.set_cons_succ, List.set_cons_zero])
  refine wpAnyH_take (i := 37) (v := ?_) rfl (by kernel_rfl) (by kernel_rfl) (by kernel_rfl) (fun _ _ _ h => h) (Or.inl ⟨by rfl, ?_⟩) hHeld ?_
  rotate_left
  · (intro wx hSx; obtain ⟨⟨a0, a1, a2, a3, a4, a5⟩, _⟩ : (_ ∧ _) ∧ True := ⟨hSx.1, trivial⟩; go_simp; (try with_reducible rfl))
  (try simp only [Act.put, List.getElem_toArray, List.getElem_cons_succ, List.getElem_cons_zero, List.setIfInBounds_toArray, List.set_cons_succ, List.set_cons_zero])
  refine wpAnyH_take (i := 38) (v := ?_) rfl (by kernel_rfl) (by kernel_rfl) (by kernel_rfl) (fun _ _ _ h => h) (Or.inl ⟨by rfl, ?_⟩) hHeld ?_
  rotate_left
  · (intro wx hSx; obtain ⟨⟨a0, a1, a2, a3, a4, a5⟩, _⟩ : (_ ∧ _) ∧ True := ⟨hSx.1, trivial⟩; go_simp; (try with_reducible rfl))
  (try simp only [Act.put, List.getElem_toArray, List.getElem_cons_succ, List.getElem_cons_zero, List.setIfInBounds_toArray, List.set_cons_succ, List.set_cons_zero])
  refine wpAnyH_take (i := 39) (v := ?_) rfl (by kernel_rfl) (by kernel_rfl) (by kernel_rfl) (fun _ _ _ h => h) (Or.inl ⟨by rfl, ?_⟩) hHeld ?_
  rotate_left
  · (intro wx hSx; obtain ⟨⟨a0, a1, a2, a3, a4, a5⟩, _⟩ : (_ ∧ _) ∧ True := ⟨hSx.1, trivial⟩; go_simp; (try with_reducible rfl))
  (try simp only [Act.put, List.getElem_toArray, List.getElem_cons_succ, List.getElem_cons_zero, List.setIfInBounds_toArray, List.set_cons_succ, List.set_cons_zero])
  refine wpAnyH_take (i := 40) (v := ?_) rfl (by kernel_rfl) (by kernel_rfl) (by kernel_rfl) (fun _ _ _ h => h) (Or.inl ⟨by rfl, ?_⟩) hHeld ?_
  rotate_left
  · (intro wx hSx; obtain ⟨⟨a0, a1, a2, a3, a4, a5⟩, _⟩ : (_ ∧ _) ∧ True := ⟨hSx.1, trivial⟩; go_simp; (try with_reducible rfl))
  (try simp only [Act.put, List.getElem_toArray, List.getElem_cons_succ, List.getElem_cons_zero, List.setIfInBounds_toArray, List.set_cons_succ, List.set_cons_zero])
  refine wpAnyH_take (i := 41) (v := ?_) rfl (by kernel_rfl) (by kernel_rfl) (by kernel_rfl) (fun _ _ _ h => h) (Or.inl ⟨by rfl, ?_⟩) hHeld ?_
  rotate_left
  · (intro wx hSx; obtain ⟨⟨a0, a1, a2, a3, a4, a5⟩, _⟩ : (_ ∧ _) ∧ True := ⟨hSx.1, trivial⟩; go_simp; (try with_reducible rfl))
  (try simp only [Act.put, List.getElem_toArray, List.getElem_cons_succ, List.getElem_cons_zero, List.setIfInBounds_toArray, List.set_cons_succ, List.set_cons_zero])
  refine wpAnyH_take (i := 42) (v := ?_) rfl (by kernel_rfl) (by kernel_rfl) (by kernel_rfl) (fun _ _ _ h => h) (Or.inl ⟨by rfl, ?_⟩) hHeld ?_
  rotate_left
  · (intro wx hSx; obtain ⟨⟨a0, a1, a2, a3, a4, a5⟩, _⟩ : (_ ∧ _) ∧ True := ⟨hSx.1, trivial⟩; go_simp; (try with_reducible rfl))
  (try simp only [Act.put, List.getElem_toArray, List.getElem_cons_succ, List.getElem_cons_zero, List.setIfInBounds_toArray, List.set_cons_succ, List.set_cons_zero])
  refine wpAnyH_take (i := 43) (v := ?_) rfl (by kernel_rfl) (by kernel_rfl) (by kernel_rfl) (fun _ _ _ h => h) (Or.inl ⟨by rfl, ?_⟩) hHeld ?_
  rotate_left
  · (intro wx hSx; obtain ⟨⟨a0, a1, a2, a3, a4, a5⟩, _⟩ : (_ ∧ _) ∧ True := ⟨hSx.1, trivial⟩; go_simp; (try with_reducible rfl))
  (try simp only [Act.put, List.getElem_toArray, List.getElem_cons_succ, List.getElem_cons_zero, List.setIfInBounds_toArray, List.set_cons_succ, List.set_cons_zero])
  refine wpAnyH_take (i := 44) (v := ?_) rfl (by kernel_rfl) (by kernel_rfl) (by kernel_rfl) (fun _ _ _ h => h) (Or.inl ⟨by rfl, ?_⟩) hHeld ?_
  rotate_left
  · (intro wx hSx; obtain ⟨⟨a0, a1, a2, a3, a4, a5⟩, _⟩ : (_ ∧ _) ∧ True := ⟨hSx.1, trivial⟩; go_simp; (try with_reducible rfl))
  (try simp only [Act.put, List.getElem_toArray, List.getElem_cons_succ, List.getElem_cons_zero, List.setIfInBounds_toArray, List.set_cons_succ, List.set_cons_zero])
  refine wpAnyH_take (i := 45) (v := ?_) rfl (by kernel_rfl) (by kernel_rfl) (by kernel_rfl) (fun _ _ _ h => h) (Or.inl ⟨by rfl, ?_⟩) hHeld ?_
  rotate_left
  · (intro wx hSx; obtain ⟨⟨a0, a1, a2, a3, a4, a5⟩, _⟩ : (_ ∧ _) ∧ True := ⟨hSx.1, trivial⟩; go_simp; (try with_reducible rfl))
  (try simp only [Act.put, List.getElem_toArray, List.getElem_cons_succ, List.getElem_cons_zero, List.setIfInBounds_toArray, List.set_cons_succ, List.set_cons_zero])
  refine wpAnyH_done (by kernel_rfl) ?_ _
  clear hHeld
  go_upto_region 3 with fail
  have HH := Lib.hid HH.out.drew
  refine wp_region_held_drew (S := (InRc w w.heap.size r A cap)) (by kernel_rfl) HH.out (fun hHeld => ?_)
  refine wpAnyH_take (i := 0) (v := ?_) rfl (by kernel_rfl) (by kernel_rfl) (by kernel_rfl) (fun _ _ _ h => h) (Or.inl ⟨by rfl, ?_⟩) hHeld ?_
  rotate_left
  · (intro wx hSx; obtain ⟨⟨a0, a1, a2, a3, a4, a5⟩, _⟩ : (_ ∧ _) ∧ True := ⟨hSx.1, trivial⟩; go_simp; (try with_reducible rfl))
  (try simp only [Act.put, List.getElem_toArray, List.getElem_cons_zero, List.setIfInBounds_toArray, List.set_cons_succ, List.set_cons_zero])
  refine wpAnyH_take (i := 1) (v := ?_) rfl (by kernel_rfl) (by kernel_rfl) (by kernel_rfl) (fun _ _ _ h => h) (Or.inl ⟨by rfl, ?_⟩) hHeld ?_
  rotate_left
  · (intro wx hSx; obtain ⟨⟨a0, a1, a2, a3, a4, a5⟩, _⟩ : (_ ∧ _) ∧ True := ⟨hSx.1, trivial⟩; go_simp; (try with_reducible rfl))
  (try simp only [Act.put, List.getElem_toArray, List.getElem_cons_succ, List.getElem_cons_zero, List.setIfInBounds_toArray, List.set_cons_succ, List.set_cons_zero])
  refine wpAnyH_take (i := 2) (v := ?_) rfl (by kernel_rfl) (by kernel_rfl) (by kernel_rfl) (fun _ _ _ h => h) (Or.inl ⟨by rfl, ?_⟩) hHeld ?_
  rotate_left
  · (intro wx hSx; obtain ⟨⟨a0, a1, a2, a3, a4, a5⟩, _⟩ : (_ ∧ _) ∧ True := ⟨hSx.1, trivial⟩; go_simp; (try with_reducible rfl))
  (try simp only [Act.put, List.getElem_toArray, List.getElem_cons_succ, List.getElem_cons_zero, List.setIfInBounds_toArray, List.set_cons_succ, List.set_cons_zero])
  refine wpAnyH_take (i := 3) (v := ?_) rfl (by kernel_rfl) (by kernel_rfl) (by kernel_rfl) (fun _ _ _ h => h) (Or.inl ⟨by rfl, ?_⟩) hHeld ?_
  rotate_left
  · (intro wx hSx; obtain ⟨⟨a0, a1, a2, a3, a4, a5⟩, _⟩ : (_ ∧ _) ∧ True := ⟨hSx.1, trivial⟩; go_simp; (try with_reducible rfl))
  (try simp only [Act.put, List.getElem_toArray, List.getElem_cons_succ, List.getElem_cons_zero, List.setIfInBounds_toArray, List.set_cons_succ, List.set_cons_zero])
  refine wpAnyH_take (i := 4) (v := ?_) rfl (by kernel_rfl) (by kernel_rfl) (by kernel_rfl) (fun _ _ _ h => h) (Or.inl ⟨by rfl, ?_⟩) hHeld ?_
  rotate_left
  · (intro wx hSx; obtain ⟨⟨a0, a1, a2, a3, a4, a5⟩, _⟩ : (_ ∧ _) ∧ True := ⟨hSx.1, trivial⟩; go_simp; (try with_reducible rfl))
  (try simp only [Act.put, List.getElem_toArray, List.getElem_cons_succ, List.getElem_cons_zero, List.setIfInBounds_toArray, List.set_cons_succ, List.set_cons_zero])
  refine wpAnyH_take (i := 5) (v := ?_) rfl (by kernel_rfl) (by kernel_rfl) (by kernel_rfl) (fun _ _ _ h => h) (Or.inl ⟨by rfl, ?_⟩) hHeld ?_
  rotate_left
  · (intro wx hSx; obtain ⟨⟨a0, a1, a2, a3, a4, a5⟩, _⟩ : (_ ∧ _) ∧ True := ⟨hSx.1, trivial⟩; go_simp; (try with_reducible rfl))
  (try simp only [Act.put, List.getElem_toArray, List.getElem_cons_succ, List.getElem_cons_zero, List.setIfInBounds_toArray, List.set_cons_succ, List.set_cons_zero])
  refine wpAnyH_take (i := 6) (v := ?_) rfl (by kernel_rfl) (by kernel_rfl) (by kernel_rfl) (fun _ _ _ h => h) (Or.inl ⟨by rfl, ?_⟩) hHeld ?_
  rotate_left
  · (intro wx hSx; obtain ⟨⟨a0, a1, a2, a3, a4, a5⟩, _⟩ : (_ ∧ _) ∧ True := ⟨hSx.1, trivial⟩; go_simp; (try with_reducible rfl))
  (try simp only [Act.put, List.getElem_toArray, List.getElem_cons_succ, List.getElem_cons_zero, List.setIfInBounds_toArray, List.set_cons_succ, List.set_cons_zero])
  refine wpAnyH_take (i := 7) (v := ?_) rfl (by kernel_rfl) (by kernel_rfl) (by kernel_rfl) (fun _ _ _ h => h) (Or.inl ⟨by rfl, ?_⟩) hHeld ?_
  rotate_left
  · (intro wx hSx; obtain ⟨⟨a0, a1, a2, a3, a4, a5⟩, _⟩ : (_ ∧ _) ∧ True := ⟨hSx.1, trivial⟩; go_simp; (try with_reducible rfl))
  (try simp only [Act.put, List.getElem_toArray, List.getElem_cons_succ, List.getElem_cons_zero, List.setIfInBounds_toArray, List.set_cons_succ, List.set_cons_zero])
  refine wpAnyH_take (i := 8) (v := ?_) rfl (by kernel_rfl) (by kernel_rfl) (by kernel_rfl) (fun _ _ _ h => h) (Or.inl ⟨by rfl, ?_⟩) hHeld ?_
  rotate_left
  · (intro wx hSx; obtain ⟨⟨a0, a1, a2, a3, a4, a5⟩, _⟩ : (_ ∧ _) ∧ True := ⟨hSx.1, trivial⟩; go_simp; (try with_reducible rfl))
  (try simp only [Act.put, List.getElem_toArray, List.getElem_cons_succ, List.getElem_cons_zero, List.setIfInBounds_toArray, List.set_cons_succ, List.set_cons_zero])
  refine wpAnyH_take (i := 11) (v := ?_) rfl (by kernel_rfl) (by kernel_rfl) (by kernel_rfl) (fun _ _ _ h => h) (Or.inl ⟨by rfl, ?_⟩) hHeld ?_
  rotate_left
  · (intro wx hSx; obtain ⟨⟨a0, a1, a2, a3, a4, a5⟩, _⟩ : (_ ∧ _) ∧ True := ⟨hSx.1, trivial⟩; go_simp; (try with_reducible rfl))
  (try simp only [Act.put, List.getElem_toArray, List.getElem_cons_succ, List.getElem_cons_zero, List.setIfInBounds_toArray, List.set_cons_succ, List.set_cons_zero])
  refine wpAnyH_take (i := 12) (v := ?_) rfl (by kernel_rfl) (by kernel_rfl) (by kernel_rfl) (fun _ _ _ h => h) (Or.inl ⟨by rfl, ?_⟩) hHeld ?_
  rotate_left
  · (intro wx hSx; obtain ⟨⟨a0, a1, a2, a3, a4, a5⟩, _⟩ : (_ ∧ _) ∧ True := ⟨hSx.1, trivial⟩; go_simp; (try with_reducible rfl))
  (try simp only [Act.put, List.getElem_toArray, List.getElem_cons_succ, List.getElem_cons_zero, List.setIfInBounds_toArray, List.set_cons_succ, List.set_cons_zero])
  refine wpAnyH_ready (rs := [9]) (by kernel_rfl) (by simp) ?_
  refine AllReadyH.cons rfl (fun K hK => ?_) AllReadyH.nil
  rw [if_pos (by rfl)]
  go_simp
  refine (HRDY.out _ HH.out).mono ?_
  rintro e w1 ⟨rfl, hb1⟩
  have HH := Lib.hid (HH.out.next hb1)
  (try simp only [])
  refine hK.out _ _ HH.out (fun hHeld => ?_)
  clear hb1
  clear hK K
  (try simp only [Act.put, List.getElem_toArray, List.getElem_cons_succ, List.getElem_cons_zero, List.setIfInBounds_toArray, List.set_cons_succ, List.set_cons_zero])
  refine wpAnyH_take (i := 10) (v := ?_) rfl (by kernel_rfl) (by kernel_rfl) (by kernel_rfl) (fun _ _ _ h => h) (Or.inl ⟨by rfl, ?_⟩) hHeld ?_
  rotate_left
  · (intro wx hSx; obtain ⟨⟨a0, a1, a2, a3, a4, a5⟩, _⟩ : (_ ∧ _) ∧ True := ⟨hSx.1, trivial⟩; go_simp; (try with_reducible rfl))
  (try simp only [Act.put, List.getElem_toArray, List.getElem_cons_succ, List.getElem_cons_zero, List.setIfInBounds_toArray, List.set_cons_succ, List.set_cons_zero])
  refine wpAnyH_take (i := 13) (v := ?_) rfl (by kernel_rfl) (by kernel_rfl) (by kernel_rfl) (fun _ _ _ h => h) (Or.inl ⟨by rfl, ?_⟩) hHeld ?_
  rotate_left
  · (intro wx hSx; obtain ⟨⟨a0, a1, a2, a3, a4, a5⟩, _⟩ : (_ ∧ _) ∧ True := ⟨hSx.1, trivial⟩; go_simp; (try with_reducible rfl))
  (try simp only [Act.put, List.getElem_toArray, List.getElem_cons_succ, List.getElem_cons_zero, List.setIfInBounds_toArray, List.set_cons_succ, List.set_cons_zero])
  refine wpAnyH_take (i := 14) (v := ?_) rfl (by kernel_rfl) (by kernel_rfl) (by kernel_rfl) (fun _ _ _ h => h) (Or.inl ⟨by rfl, ?_⟩) hHeld ?_
  rotate_left
  · (intro wx hSx; obtain ⟨⟨a0, a1, a2, a3, a4, a5⟩, _⟩ : (_ ∧ _) ∧ True := ⟨hSx.1, trivial⟩; go_simp; (try with_reducible rfl))
  (try simp only [Act.put, List.getElem_toArray, List.getElem_cons_succ, List.getElem_cons_zero, List.setIfInBounds_toArray, List.set_cons_succ, List.set_cons_zero])
  refine wpAnyH_take (i := 15) (v := ?_) rfl (by kernel_rfl) (by kernel_rfl) (by kernel_rfl) (fun _ _ _ h => h) (Or.inl ⟨by rfl, ?_⟩) hHeld ?_
  rotate_left
  · (intro wx hSx; obtain ⟨⟨a0, a1, a2, a3, a4, a5⟩, _⟩ : (_ ∧ _) ∧ True := ⟨hSx.1, trivial⟩; go_simp; (try with_reducible rfl))
  (try simp only [Act.put, List.getElem_toArray, List.getElem_cons_succ, List.getElem_cons_zero, List.setIfInBounds_toArray, List.set_cons_succ, List.set_cons_zero])
  refine wpAnyH_done (by kernel_rfl) ?_ _
  clear hHeld
  by_cases s0 : r.st = 0
  · have HV2 : Hid (decide (okRc r) = false) := Lib.hid (decide_eq_false (fun h => by have h9 := HV.out.1 h; simp [stRc, HFI.out, HFU.out, s0] at h9))
    obtain ⟨a0, a1, a2, a3, a4, a5⟩ := HH.out.1
    rw [s0] at a0
    clear s0
    go_wp2
    go_ret
    exact ⟨by rw [HV2.out] <;> rfl, HH.out.2.2.2⟩
  by_cases s1 : r.st = 1
  · have HV2 : Hid (decide (okRc r) = decide (r.code = 0)) := Lib.hid (decide_eq_decide.2 (HV.out.trans (by simp [stRc, HFI.out, HFU.out, s1])))
    obtain ⟨a0, a1, a2, a3, a4, a5⟩ := HH.out.1
    rw [s1] at a0
    clear s1 s0
    go_wp2
    go_ret
    exact ⟨by rw [HV2.out] <;> rfl, HH.out.2.2.2⟩
  by_cases s2 : r.st = 2
  · have HV2 : Hid (decide (okRc r) = false) := Lib.hid (decide_eq_false (fun h => by have h9 := HV.out.1 h; simp [stRc, HFI.out, HFU.out, s2] at h9))
    obtain ⟨a0, a1, a2, a3, a4, a5⟩ := HH.out.1
    rw [s2] at a0
    clear s2 s0 s1
    go_wp2
    go_ret
    exact ⟨by rw [HV2.out] <;> rfl, HH.out.2.2.2⟩
  by_cases s3 : r.st = 3
  · have HV2 : Hid (decide (okRc r) = false) := Lib.hid (decide_eq_false (fun h => by have h9 := HV.out.1 h; simp [stRc, HFI.out, HFU.out, s3] at h9))
    obtain ⟨a0, a1, a2, a3, a4, a5⟩ := HH.out.1
    rw [s3] at a0
    clear s3 s0 s1 s2
    go_wp2
    go_ret
    exact ⟨by rw [HV2.out] <;> rfl, HH.out.2.2.2⟩
  by_cases s4 : r.st = 4
  · by_cases c0 : r.hi = r.fin
    · by_cases c1 : r.buf.chs = []
      · have HV2 : Hid (decide (okRc r) = decide (True)) := Lib.hid (decide_eq_decide.2 (HV.out.trans (by simp [stRc, HFI.out, HFU.out, s4, c0, c1])))
        have z0 : (r.hi == r.fin) = true := by simpa using c0
        have z1 : ((r.buf.chs.length : Int) == 0) = true := by simp [c1]
        clear c0 c1
        obtain ⟨a0, a1, a2, a3, a4, a5⟩ := HH.out.1
        rw [s4] at a0
        clear s4 s0 s1 s2 s3
        go_wp2
        go_ret
        exact ⟨by rw [HV2.out] <;> rfl, HH.out.2.2.2⟩
      · have HV2 : Hid (decide (okRc r) = false) := Lib.hid (decide_eq_false (fun h => by have h9 := HV.out.1 h; simp [stRc, HFI.out, HFU.out, s4, c0, c1] at h9))
        have z0 : (r.hi == r.fin) = true := by simpa using c0
        have z1 : ((r.buf.chs.length : Int) == 0) = false := by simpa using c1
        clear c0 c1
        obtain ⟨a0, a1, a2, a3, a4, a5⟩ := HH.out.1
        rw [s4] at a0
        clear s4 s0 s1 s2 s3
        go_wp2
        go_ret
        exact ⟨by rw [HV2.out] <;> rfl, HH.out.2.2.2⟩
    · have HV2 : Hid (decide (okRc r) = false) := Lib.hid (decide_eq_false (fun h => by have h9 := HV.out.1 h; simp [stRc, HFI.out, HFU.out, s4, c0] at h9))
      have z0 : (r.hi == r.fin) = false := by simpa using c0
      clear c0
      obtain ⟨a0, a1, a2, a3, a4, a5⟩ := HH.out.1
      rw [s4] at a0
      clear s4 s0 s1 s2 s3
      go_wp2
      go_ret
      exact ⟨by rw [HV2.out] <;> rfl, HH.out.2.2.2⟩
  by_cases s5 : r.st = 5
  · by_cases c0 : r.hi = r.fin
    · by_cases c1 : r.buf.chs = []
      · have HV2 : Hid (decide (okRc r) = decide (True)) := Lib.hid (decide_eq_decide.2 (HV.out.trans (by simp [stRc, HFI.out, HFU.out, s5, c0, c1])))
        have z0 : (r.hi == r.fin) = true := by simpa using c0
        have z1 : ((r.buf.chs.length : Int) == 0) = true := by simp [c1]
        clear c0 c1
        obtain ⟨a0, a1, a2, a3, a4, a5⟩ := HH.out.1
        rw [s5] at a0
        clear s5 s0 s1 s2 s3 s4
        go_wp2
        go_ret
        exact ⟨by rw [HV2.out] <;> rfl, HH.out.2.2.2⟩
      · have HV2 : Hid (decide (okRc r) = false) := Lib.hid (decide_eq_false (fun h => by have h9 := HV.out.1 h; simp [stRc, HFI.out, HFU.out, s5, c0, c1] at h9))
        have z0 : (r.hi == r.fin) = true := by simpa using c0
        have z1 : ((r.buf.chs.length : Int) == 0) = false := by simpa using c1
        clear c0 c1
        obtain ⟨a0, a1, a2, a3, a4, a5⟩ := HH.out.1
        rw [s5] at a0
        clear s5 s0 s1 s2 s3 s4
        go_wp2
        go_ret
        exact ⟨by rw [HV2.out] <;> rfl, HH.out.2.2.2⟩
    · have HV2 : Hid (decide (okRc r) = false) := Lib.hid (decide_eq_false (fun h => by have h9 := HV.out.1 h; simp [stRc, HFI.out, HFU.out, s5, c0] at h9))
      have z0 : (r.hi == r.fin) = false := by simpa using c0
      clear c0
      obtain ⟨a0, a1, a2, a3, a4, a5⟩ := HH.out.1
      rw [s5] at a0
      clear s5 s0 s1 s2 s3 s4
      go_wp2
      go_ret
      exact ⟨by rw [HV2.out] <;> rfl, HH.out.2.2.2⟩
  have HV2 : Hid (decide (okRc r) = false) := Lib.hid (decide_eq_false (fun h => by have h9 := HV.out.1 h; simp [stRc, HFI.out, HFU.out, s0, s1, s2, s3, s4, s5] at h9))
  obtain ⟨a0, a1, a2, a3, a4, a5⟩ := HH.out.1
  have t0 : (r.st == 0) = false := by simpa using s0
  have t1 : (r.st == 1) = false := by simpa using s1
  have t2 : (r.st == 2) = false := by simpa using s2
  have t3 : (r.st == 3) = false := by simpa using s3
  have t4 : (r.st == 4) = false := by simpa using s4
  have t5 : (r.st == 5) = false := by simpa using s5
  clear s0 s1 s2 s3 s4 s5
  go_wp2
  go_ret
  exact ⟨by rw [HV2.out] <;> rfl, HH.out.2.2.2⟩
/-- spec.IsReceiver -/
theorem sisrc (r : Rc) (A : Option Addr) (cap B : Nat) (w : World) (hB : B ≤ w.heap.size) (hr : Chs w B A r.buf.chs) (hn : r.buf.chs.length ≤ 1000000000) (hi : inB r.buf.chs) (hx : inRc r) :
    Calls Try.prog 19 #[rcV r (.slice A r.buf.chs.length cap)] w fun e w' => e = .returned (.bool (decide (okRc r))) ∧ Below w.heap.size w w' := by
  by_cases h0 : okB r.buf
  rotate_left
  · exact sisrc_0 r A cap B w hB hr hn hi hx h0 (fun h => h0 h.1.1)
  by_cases h1 : 0 ≤ r.hi ∧ r.hi ≤ 4611686018427387903
  rotate_left
  · exact sisrc_1 r A cap B w hB hr hn hi hx h0 h1 (fun h => h1 h.1.2.1)
  by_cases h2 : r.hi < endB r.buf
  · exact sisrc_2 r A cap B w hB hr hn hi hx h0 h1 h2 (fun h => by have := h.1.2.2.1; omega)
  by_cases h3 : 0 ≤ r.code ∧ r.code ≤ 4611686018427387903
  rotate_left
  · exact sisrc_3 r A cap B w hB hr hn hi hx h0 h1 h2 h3 (fun h => h3 h.1.2.2.2.1)
  by_cases hf : r.fin = -1
  · exact sisrc_open r A cap B w hB hr hn hi hx h0 h1 h2 h3 hf ⟨h0, h1, by omega, h3, fun h => h.1 hf, by omega, by omega⟩
  by_cases h5 : r.fin < r.hi
  · exact sisrc_4 r A cap B w hB hr hn hi hx h0 h1 h2 h3 hf h5 (fun h => h.1.2.2.2.2.1 ⟨hf, h5⟩)
  by_cases h6 : 4611686018427387903 < r.fin
  · exact sisrc_5 r A cap B w hB hr hn hi hx h0 h1 h2 h3 hf h5 h6 (fun h => by have := h.1.2.2.2.2.2.1; omega)
  by_cases hfull : fullRc r
  · exact sisrc_full r A cap B w hB hr hn hi hx h0 h1 h2 h3 hf h5 (by omega) hfull ⟨h0, h1, by omega, h3, fun h => h5 h.2, by omega, by omega⟩
  · exact sisrc_some r A cap B w hB hr hn hi hx h0 h1 h2 h3 hf h5 (by omega) hfull ⟨h0, h1, by omega, h3, fun h => h5 h.2, by omega, by omega⟩
end Go.Proofs.Ytmmoedhfeaokgaa
