/-
  Contracts and lemmas for the law on draining.
-/
import Derived.Test.YtdaoaedkjoknmaaGreatDrZ0
import Derived.Test.YtdaoaedkjoknmaaGreatDrZ27
set_option maxRecDepth 1000000
set_option maxHeartbeats 8000000
namespace Go.Proofs.YtdaoaedkjoknmaaGreat
open Go.RowKit Go.Deep Go.Proofs.YtdaoaedkjoknmaaGreat.Num

def InTS (w : World) (s : Sn) (v1 v2 v3 v4 : Value) (W : World) : Prop := InT w v2 v3 v4 W ∧ RowS W (w.heap.size + 1) s v1 v2 v3 v4
theorem InTS.start (w : World) (s : Sn) (v1 v2 v3 v4 : Value) (t : TypeId) : InTS w s v1 v2 v3 v4 ((w.alloc (.cells #[v2, v3, v4] t)).alloc (.cells (snB s v1 v2 v3 v4) 29)) := by
  have h1 : (w.alloc (.cells #[v2, v3, v4] t)).heap.size = w.heap.size + 1 := by simp
  refine ⟨(InT.start w v2 v3 v4 t).next ((Below.refl _ _).alloc (Nat.le_refl _) _), ?_⟩
  have h := RowS.new (w.alloc (.cells #[v2, v3, v4] t)) s v1 v2 v3 v4
  rw [h1] at h
  exact h
theorem InTS.next {w : World} {s : Sn} {v1 v2 v3 v4 : Value} {W W' : World} (h : InTS w s v1 v2 v3 v4 W) (hb : Below W.heap.size W W') : InTS w s v1 v2 v3 v4 W' := ⟨h.1.next hb, h.2.below hb h.2.lt⟩
theorem InTS.drew {w : World} {s : Sn} {v1 v2 v3 v4 : Value} {W : World} (h : InTS w s v1 v2 v3 v4 W) : InTS w s v1 v2 v3 v4 W.drew := h.next (Below.refl _ _).drew
theorem isbag (v1 : Value) (s : Sn) (A2 A3 A4 : Option Addr) (c2 c3 c4 B : Nat) (w : World) (hB : B ≤ w.heap.size) (hr : ReadT w B A2 A3 A4 s) (hn : LenT s) (hk : okR (-1) s.ac) :
    Calls Tryz.prog 77 #[.agg #[.slice A2 s.pe.length c2, .slice A3 s.fl.length c3, .slice A4 s.ac.length c4], snV s v1 (.slice A2 s.pe.length c2) (.slice A3 s.fl.length c3) (.slice A4 s.ac.length c4)] w fun e w' => e = .returned (.bool (decide (agrS s))) ∧ Below w.heap.size w w' := by
  have HH := LH (InTS.start w s v1 (.slice A2 s.pe.length c2) (.slice A3 s.fl.length c3) (.slice A4 s.ac.length c4) 75)
  have HG : Hid (∀ W, InTS w s v1 (.slice A2 s.pe.length c2) (.slice A3 s.fl.length c3) (.slice A4 s.ac.length c4) W → Calls Tryz.prog 55 #[.agg #[.slice A4 s.ac.length c4]] W fun e w' => e = .returned (.int .i64 (gapR s.ac 0)) ∧ Below W.heap.size W w') := LH fun W h => (isrm s.ac A4 c4 B W (Nat.le_trans hB h.1.2.2.size) (hr.2.2.below hB h.1.2.2) (by unfold LenT at hn; omega)).mono fun e w2 hh => ⟨by rw [hh.1, if_pos hk], hh.2⟩
  have HE1 : Hid (∀ W, InTS w s v1 (.slice A2 s.pe.length c2) (.slice A3 s.fl.length c3) (.slice A4 s.ac.length c4) W → Calls Tryz.prog 124 #[.agg #[.slice A3 s.fl.length c3]] W fun e w' => e = .returned (.int .i64 (lastS s.fl)) ∧ Below W.heap.size W w') := LH fun W h => isrd s.fl A3 c3 B W (Nat.le_trans hB h.1.2.2.size) (hr.2.1.below hB h.1.2.2) (by unfold LenT at hn; omega)
  have HE2 : Hid (∀ W, InTS w s v1 (.slice A2 s.pe.length c2) (.slice A3 s.fl.length c3) (.slice A4 s.ac.length c4) W → Calls Tryz.prog 124 #[.agg #[.slice A4 s.ac.length c4]] W fun e w' => e = .returned (.int .i64 (lastS s.ac)) ∧ Below W.heap.size W w') := LH fun W h => isrd s.ac A4 c4 B W (Nat.le_trans hB h.1.2.2.size) (hr.2.2.below hB h.1.2.2) (by unfold LenT at hn; omega)
  clear hr hn hk
  have HAG : Hid (agrS s ↔ s.rn.base = gapR s.ac 0 ∧ max (lastS s.fl) (lastS s.ac) ≤ s.sent) := LH Iff.rfl
  generalize lastS s.fl = e1 at *
  generalize lastS s.ac = e2 at *
  generalize gapR s.ac 0 = g0 at *
  obtain ⟨mx, hmx⟩ : ∃ m, max e1 e2 = m := ⟨_, rfl⟩
  rw [hmx] at HAG
  have HMX : Hid ((if e1 < e2 then e2 else e1) = mx) := LH (by rw [← hmx]; split <;> omega)
  clear hmx
  by_cases h5 : s.rn.base = g0
  · skip
    have d5 : (s.rn.base == g0) = true := by simpa using h5
    have HV : Hid (decide (agrS s) = decide (mx ≤ s.sent)) := LH (decide_eq_decide.2 (HAG.out.trans ⟨fun k => k.2, fun k => ⟨h5, k⟩⟩))
    clear h5 HAG
    rw [HV.out]
    go_enter Tryz.func77, Tryz.ntmps77
    go_upto_region 1 with fail
    generalize (w.alloc (.cells #[.slice A2 s.pe.length c2, .slice A3 s.fl.length c3, .slice A4 s.ac.length c4] 75)).alloc (.cells (snB s v1 (.slice A2 s.pe.length c2) (.slice A3 s.fl.length c3) (.slice A4 s.ac.length c4)) 29) = w2 at *
    have HH := LH HH.out.drew
    refine wp_region_held_drew (S := (InTS w s v1 (.slice A2 s.pe.length c2) (.slice A3 s.fl.length c3) (.slice A4 s.ac.length c4))) (by kernel_rfl) HH.out (fun hHeld => ?_)
    refine tK 0 (v := ?_) rfl hHeld ?_ ?_
    rotate_left
    · (intro wx hSx; obtain ⟨⟨⟨t0, t1, t2⟩, ⟨a0, a1, a2, a3, a4, a5, a6, a7, a8, a9, a10, a11⟩⟩, _⟩ : (_ ∧ _) ∧ True := ⟨⟨hSx.1.1, hSx.2.cells⟩, trivial⟩; go_simp; (try with_reducible rfl))
    (try simp only [Act.put, zA, zC, zD, zE, zF])
    refine tK 1 (v := ?_) rfl hHeld ?_ ?_
    rotate_left
    · (intro wx hSx; obtain ⟨⟨⟨t0, t1, t2⟩, ⟨a0, a1, a2, a3, a4, a5, a6, a7, a8, a9, a10, a11⟩⟩, _⟩ : (_ ∧ _) ∧ True := ⟨⟨hSx.1.1, hSx.2.cells⟩, trivial⟩; go_simp; (try with_reducible rfl))
    (try simp only [Act.put, zA, zB, zC, zD, zE, zF])
    refine tK 2 (v := ?_) rfl hHeld ?_ ?_
    rotate_left
    · (intro wx hSx; obtain ⟨⟨⟨t0, t1, t2⟩, ⟨a0, a1, a2, a3, a4, a5, a6, a7, a8, a9, a10, a11⟩⟩, _⟩ : (_ ∧ _) ∧ True := ⟨⟨hSx.1.1, hSx.2.cells⟩, trivial⟩; go_simp; (try with_reducible rfl))
    (try simp only [Act.put, zA, zB, zC, zD, zE, zF])
    refine tK 3 (v := ?_) rfl hHeld ?_ ?_
    rotate_left
    · (intro wx hSx; obtain ⟨⟨⟨t0, t1, t2⟩, ⟨a0, a1, a2, a3, a4, a5, a6, a7, a8, a9, a10, a11⟩⟩, _⟩ : (_ ∧ _) ∧ True := ⟨⟨hSx.1.1, hSx.2.cells⟩, trivial⟩; go_simp; (try with_reducible rfl))
    (try simp only [Act.put, zA, zB, zC, zD, zE, zF])
    refine tK 4 (v := ?_) rfl hHeld ?_ ?_
    rotate_left
    · (intro wx hSx; obtain ⟨⟨⟨t0, t1, t2⟩, ⟨a0, a1, a2, a3, a4, a5, a6, a7, a8, a9, a10, a11⟩⟩, _⟩ : (_ ∧ _) ∧ True := ⟨⟨hSx.1.1, hSx.2.cells⟩, trivial⟩; go_simp; (try with_reducible rfl))
    (try simp only [Act.put, zA, zB, zC, zD, zE, zF])
    refine wpAnyH_ready (rs := [5]) (by kernel_rfl) (by simp) ?_
    refine AllReadyH.cons rfl (fun K hK => ?_) AllReadyH.nil
    rw [if_pos (by rfl)]
    go_simp
    refine (HG.out _ HH.out).mono ?_
    rintro e w1 ⟨rfl, hb1⟩
    have HH := LH (HH.out.next hb1)
    (try simp only [])
    refine hK.out _ _ HH.out (fun hHeld => ?_)
    clear hb1
    clear hK K
    (try simp only [Act.put, zA, zB, zC, zD, zE, zF])
    refine tK 6 (v := ?_) rfl hHeld ?_ ?_
    rotate_left
    · (intro wx hSx; obtain ⟨⟨⟨t0, t1, t2⟩, ⟨a0, a1, a2, a3, a4, a5, a6, a7, a8, a9, a10, a11⟩⟩, _⟩ : (_ ∧ _) ∧ True := ⟨⟨hSx.1.1, hSx.2.cells⟩, trivial⟩; go_simp; (try with_reducible rfl))
    (try simp only [Act.put, zA, zB, zC, zD, zE, zF])
    refine tK 7 (v := ?_) rfl hHeld ?_ ?_
    rotate_left
    · (intro wx hSx; obtain ⟨⟨⟨t0, t1, t2⟩, ⟨a0, a1, a2, a3, a4, a5, a6, a7, a8, a9, a10, a11⟩⟩, _⟩ : (_ ∧ _) ∧ True := ⟨⟨hSx.1.1, hSx.2.cells⟩, trivial⟩; go_simp; (try with_reducible rfl))
    (try simp only [Act.put, zA, zB, zC, zD, zE, zF])
    refine tK 8 (v := ?_) rfl hHeld ?_ ?_
    rotate_left
    · (intro wx hSx; obtain ⟨⟨⟨t0, t1, t2⟩, ⟨a0, a1, a2, a3, a4, a5, a6, a7, a8, a9, a10, a11⟩⟩, _⟩ : (_ ∧ _) ∧ True := ⟨⟨hSx.1.1, hSx.2.cells⟩, trivial⟩; go_simp; (try with_reducible rfl))
    (try simp only [Act.put, zA, zB, zC, zD, zE, zF])
    refine tK 9 (v := ?_) rfl hHeld ?_ ?_
    rotate_left
    · (intro wx hSx; obtain ⟨⟨⟨t0, t1, t2⟩, ⟨a0, a1, a2, a3, a4, a5, a6, a7, a8, a9, a10, a11⟩⟩, _⟩ : (_ ∧ _) ∧ True := ⟨⟨hSx.1.1, hSx.2.cells⟩, trivial⟩; go_simp; (try with_reducible rfl))
    (try simp only [Act.put, zA, zB, zC, zD, zE, zF])
    refine tK 11 (v := ?_) rfl hHeld ?_ ?_
    rotate_left
    · (intro wx hSx; obtain ⟨⟨⟨t0, t1, t2⟩, ⟨a0, a1, a2, a3, a4, a5, a6, a7, a8, a9, a10, a11⟩⟩, _⟩ : (_ ∧ _) ∧ True := ⟨⟨hSx.1.1, hSx.2.cells⟩, trivial⟩; go_simp; (try with_reducible rfl))
    (try simp only [Act.put, zA, zB, zC, zD, zE, zF])
    refine tK 12 (v := ?_) rfl hHeld ?_ ?_
    rotate_left
    · (intro wx hSx; obtain ⟨⟨⟨t0, t1, t2⟩, ⟨a0, a1, a2, a3, a4, a5, a6, a7, a8, a9, a10, a11⟩⟩, _⟩ : (_ ∧ _) ∧ True := ⟨⟨hSx.1.1, hSx.2.cells⟩, trivial⟩; go_simp; (try with_reducible rfl))
    (try simp only [Act.put, zA, zB, zC, zD, zE, zF])
    refine tK 13 (v := ?_) rfl hHeld ?_ ?_
    rotate_left
    · (intro wx hSx; obtain ⟨⟨⟨t0, t1, t2⟩, ⟨a0, a1, a2, a3, a4, a5, a6, a7, a8, a9, a10, a11⟩⟩, _⟩ : (_ ∧ _) ∧ True := ⟨⟨hSx.1.1, hSx.2.cells⟩, trivial⟩; go_simp; (try with_reducible rfl))
    (try simp only [Act.put, zA, zB, zC, zD, zE, zF])
    refine tK 16 (v := ?_) rfl hHeld ?_ ?_
    rotate_left
    · (intro wx hSx; obtain ⟨⟨⟨t0, t1, t2⟩, ⟨a0, a1, a2, a3, a4, a5, a6, a7, a8, a9, a10, a11⟩⟩, _⟩ : (_ ∧ _) ∧ True := ⟨⟨hSx.1.1, hSx.2.cells⟩, trivial⟩; go_simp; (try with_reducible rfl))
    (try simp only [Act.put, zA, zB, zC, zD, zE, zF])
    refine tK 17 (v := ?_) rfl hHeld ?_ ?_
    rotate_left
    · (intro wx hSx; obtain ⟨⟨⟨t0, t1, t2⟩, ⟨a0, a1, a2, a3, a4, a5, a6, a7, a8, a9, a10, a11⟩⟩, _⟩ : (_ ∧ _) ∧ True := ⟨⟨hSx.1.1, hSx.2.cells⟩, trivial⟩; go_simp; (try with_reducible rfl))
    (try simp only [Act.put, zA, zB, zC, zD, zE, zF])
    refine wpAnyH_ready (rs := [10]) (by kernel_rfl) (by simp) ?_
    refine AllReadyH.cons rfl (fun K hK => ?_) AllReadyH.nil
    rw [if_pos (by rfl)]
    go_simp
    refine (HE1.out _ HH.out).mono ?_
    rintro e w1 ⟨rfl, hb1⟩
    have HH := LH (HH.out.next hb1)
    (try simp only [])
    refine hK.out _ _ HH.out (fun hHeld => ?_)
    clear hb1
    clear hK K
    (try simp only [Act.put, zA, zB, zC, zD, zE, zF])
    refine wpAnyH_ready (rs := [14]) (by kernel_rfl) (by simp) ?_
    refine AllReadyH.cons rfl (fun K hK => ?_) AllReadyH.nil
    rw [if_pos (by rfl)]
    go_simp
    refine (HE2.out _ HH.out).mono ?_
    rintro e w1 ⟨rfl, hb1⟩
    have HH := LH (HH.out.next hb1)
    (try simp only [])
    refine hK.out _ _ HH.out (fun hHeld => ?_)
    clear hb1
    clear hK K
    (try simp only [Act.put, zA, zB, zC, zD, zE, zF])
    refine tK 15 (v := ?_) rfl hHeld ?_ ?_
    rotate_left
    · (intro wx hSx; obtain ⟨⟨⟨t0, t1, t2⟩, ⟨a0, a1, a2, a3, a4, a5, a6, a7, a8, a9, a10, a11⟩⟩, _⟩ : (_ ∧ _) ∧ True := ⟨⟨hSx.1.1, hSx.2.cells⟩, trivial⟩; go_simp; (try with_reducible rfl))
    (try simp only [Act.put, zA, zB, zC, zD, zE, zF])
    refine tK 18 (v := ?_) rfl hHeld ?_ ?_
    rotate_left
    · (intro wx hSx; obtain ⟨⟨⟨t0, t1, t2⟩, ⟨a0, a1, a2, a3, a4, a5, a6, a7, a8, a9, a10, a11⟩⟩, _⟩ : (_ ∧ _) ∧ True := ⟨⟨hSx.1.1, hSx.2.cells⟩, trivial⟩; go_simp; (try with_reducible rfl))
    (try simp only [Act.put, zA, zB, zC, zD, zE, zF])
    refine tK 19 (v := ?_) rfl hHeld ?_ ?_
    rotate_left
    · (intro wx hSx; obtain ⟨⟨⟨t0, t1, t2⟩, ⟨a0, a1, a2, a3, a4, a5, a6, a7, a8, a9, a10, a11⟩⟩, _⟩ : (_ ∧ _) ∧ True := ⟨⟨hSx.1.1, hSx.2.cells⟩, trivial⟩; go_simp; (try with_reducible rfl))
    (try simp only [Act.put, zA, zB, zC, zD, zE, zF])
    refine tK 20 (v := ?_) rfl hHeld ?_ ?_
    rotate_left
    · (intro wx hSx; obtain ⟨⟨⟨t0, t1, t2⟩, ⟨a0, a1, a2, a3, a4, a5, a6, a7, a8, a9, a10, a11⟩⟩, _⟩ : (_ ∧ _) ∧ True := ⟨⟨hSx.1.1, hSx.2.cells⟩, trivial⟩; go_simp; (try with_reducible rfl))
    (try simp only [Act.put, zA, zB, zC, zD, zE, zF])
    refine wpAnyH_done (by kernel_rfl) ?_ _
    clear hHeld
    rw [HMX.out]
    go_wp2
    go_ret
    exact ⟨rfl, HH.out.1.2.2⟩
  · skip
    have d5 : (s.rn.base == g0) = false := by simpa using h5
    have HV : Hid (decide (agrS s) = false) := LH (decide_eq_false fun k => h5 (HAG.out.1 k).1)
    clear h5 HAG
    rw [HV.out]
    go_enter Tryz.func77, Tryz.ntmps77
    go_upto_region 1 with fail
    generalize (w.alloc (.cells #[.slice A2 s.pe.length c2, .slice A3 s.fl.length c3, .slice A4 s.ac.length c4] 75)).alloc (.cells (snB s v1 (.slice A2 s.pe.length c2) (.slice A3 s.fl.length c3) (.slice A4 s.ac.length c4)) 29) = w2 at *
    have HH := LH HH.out.drew
    refine wp_region_held_drew (S := (InTS w s v1 (.slice A2 s.pe.length c2) (.slice A3 s.fl.length c3) (.slice A4 s.ac.length c4))) (by kernel_rfl) HH.out (fun hHeld => ?_)
    refine tK 0 (v := ?_) rfl hHeld ?_ ?_
    rotate_left
    · (intro wx hSx; obtain ⟨⟨⟨t0, t1, t2⟩, ⟨a0, a1, a2, a3, a4, a5, a6, a7, a8, a9, a10, a11⟩⟩, _⟩ : (_ ∧ _) ∧ True := ⟨⟨hSx.1.1, hSx.2.cells⟩, trivial⟩; go_simp; (try with_reducible rfl))
    (try simp only [Act.put, zA, zC, zD, zE, zF])
    refine tK 1 (v := ?_) rfl hHeld ?_ ?_
    rotate_left
    · (intro wx hSx; obtain ⟨⟨⟨t0, t1, t2⟩, ⟨a0, a1, a2, a3, a4, a5, a6, a7, a8, a9, a10, a11⟩⟩, _⟩ : (_ ∧ _) ∧ True := ⟨⟨hSx.1.1, hSx.2.cells⟩, trivial⟩; go_simp; (try with_reducible rfl))
    (try simp only [Act.put, zA, zB, zC, zD, zE, zF])
    refine tK 2 (v := ?_) rfl hHeld ?_ ?_
    rotate_left
    · (intro wx hSx; obtain ⟨⟨⟨t0, t1, t2⟩, ⟨a0, a1, a2, a3, a4, a5, a6, a7, a8, a9, a10, a11⟩⟩, _⟩ : (_ ∧ _) ∧ True := ⟨⟨hSx.1.1, hSx.2.cells⟩, trivial⟩; go_simp; (try with_reducible rfl))
    (try simp only [Act.put, zA, zB, zC, zD, zE, zF])
    refine tK 3 (v := ?_) rfl hHeld ?_ ?_
    rotate_left
    · (intro wx hSx; obtain ⟨⟨⟨t0, t1, t2⟩, ⟨a0, a1, a2, a3, a4, a5, a6, a7, a8, a9, a10, a11⟩⟩, _⟩ : (_ ∧ _) ∧ True := ⟨⟨hSx.1.1, hSx.2.cells⟩, trivial⟩; go_simp; (try with_reducible rfl))
    (try simp only [Act.put, zA, zB, zC, zD, zE, zF])
    refine tK 4 (v := ?_) rfl hHeld ?_ ?_
    rotate_left
    · (intro wx hSx; obtain ⟨⟨⟨t0, t1, t2⟩, ⟨a0, a1, a2, a3, a4, a5, a6, a7, a8, a9, a10, a11⟩⟩, _⟩ : (_ ∧ _) ∧ True := ⟨⟨hSx.1.1, hSx.2.cells⟩, trivial⟩; go_simp; (try with_reducible rfl))
    (try simp only [Act.put, zA, zB, zC, zD, zE, zF])
    refine wpAnyH_ready (rs := [5]) (by kernel_rfl) (by simp) ?_
    refine AllReadyH.cons rfl (fun K hK => ?_) AllReadyH.nil
    rw [if_pos (by rfl)]
    go_simp
    refine (HG.out _ HH.out).mono ?_
    rintro e w1 ⟨rfl, hb1⟩
    have HH := LH (HH.out.next hb1)
    (try simp only [])
    refine hK.out _ _ HH.out (fun hHeld => ?_)
    clear hb1
    clear hK K
    (try simp only [Act.put, zA, zB, zC, zD, zE, zF])
    refine tK 6 (v := ?_) rfl hHeld ?_ ?_
    rotate_left
    · (intro wx hSx; obtain ⟨⟨⟨t0, t1, t2⟩, ⟨a0, a1, a2, a3, a4, a5, a6, a7, a8, a9, a10, a11⟩⟩, _⟩ : (_ ∧ _) ∧ True := ⟨⟨hSx.1.1, hSx.2.cells⟩, trivial⟩; go_simp; (try with_reducible rfl))
    (try simp only [Act.put, zA, zB, zC, zD, zE, zF])
    refine tK 7 (v := ?_) rfl hHeld ?_ ?_
    rotate_left
    · (intro wx hSx; obtain ⟨⟨⟨t0, t1, t2⟩, ⟨a0, a1, a2, a3, a4, a5, a6, a7, a8, a9, a10, a11⟩⟩, _⟩ : (_ ∧ _) ∧ True := ⟨⟨hSx.1.1, hSx.2.cells⟩, trivial⟩; go_simp; (try with_reducible rfl))
    (try simp only [Act.put, zA, zB, zC, zD, zE, zF])
    refine tN 8 rfl hHeld ?_
    (try simp only [Act.put, zA, zB, zC, zD, zE, zF])
    refine tN 9 rfl hHeld ?_
    (try simp only [Act.put, zA, zB, zC, zD, zE, zF])
    refine tN 10 rfl hHeld ?_
    (try simp only [Act.put, zA, zB, zC, zD, zE, zF])
    refine tN 11 rfl hHeld ?_
    (try simp only [Act.put, zA, zB, zC, zD, zE, zF])
    refine tN 12 rfl hHeld ?_
    (try simp only [Act.put, zA, zB, zC, zD, zE, zF])
    refine tN 13 rfl hHeld ?_
    (try simp only [Act.put, zA, zB, zC, zD, zE, zF])
    refine tN 14 rfl hHeld ?_
    (try simp only [Act.put, zA, zB, zC, zD, zE, zF])
    refine tN 15 rfl hHeld ?_
    (try simp only [Act.put, zA, zB, zC, zD, zE, zF])
    refine tN 16 rfl hHeld ?_
    (try simp only [Act.put, zA, zB, zC, zD, zE, zF])
    refine tN 17 rfl hHeld ?_
    (try simp only [Act.put, zA, zB, zC, zD, zE, zF])
    refine tN 18 rfl hHeld ?_
    (try simp only [Act.put, zA, zB, zC, zD, zE, zF])
    refine tK 19 (v := ?_) rfl hHeld ?_ ?_
    rotate_left
    · (intro wx hSx; obtain ⟨⟨⟨t0, t1, t2⟩, ⟨a0, a1, a2, a3, a4, a5, a6, a7, a8, a9, a10, a11⟩⟩, _⟩ : (_ ∧ _) ∧ True := ⟨⟨hSx.1.1, hSx.2.cells⟩, trivial⟩; go_simp; (try with_reducible rfl))
    (try simp only [Act.put, zA, zB, zC, zD, zE, zF])
    refine tK 20 (v := ?_) rfl hHeld ?_ ?_
    rotate_left
    · (intro wx hSx; obtain ⟨⟨⟨t0, t1, t2⟩, ⟨a0, a1, a2, a3, a4, a5, a6, a7, a8, a9, a10, a11⟩⟩, _⟩ : (_ ∧ _) ∧ True := ⟨⟨hSx.1.1, hSx.2.cells⟩, trivial⟩; go_simp; (try with_reducible rfl))
    (try simp only [Act.put, zA, zB, zC, zD, zE, zF])
    refine wpAnyH_done (by kernel_rfl) ?_ _
    clear hHeld
    go_wp2
    go_ret
    exact ⟨rfl, HH.out.1.2.2⟩
end Go.Proofs.YtdaoaedkjoknmaaGreat
