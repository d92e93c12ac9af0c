/-
  Contracts and lemmas for the law on draining.
-/
import Derived.Test.YtdaoaedkjoknmaaGreatDrZ0
import Derived.Test.YtdaoaedkjoknmaaGreatDrZ11
set_option maxRecDepth 1000000
set_option maxHeartbeats 8000000
namespace Go.Proofs.YtdaoaedkjoknmaaGreat
open Go.RowKit Go.Deep Go.Proofs.YtdaoaedkjoknmaaGreat.Num

theorem plc_head {r : Rc} : headRc r ↔ plcRc r ∧ 0 ≤ r.code ∧ r.code ≤ 4611686018427387903 := by
  constructor
  · rintro ⟨h0, h1, h2, h3, h4, h5, h6⟩
    refine ⟨⟨h0, h2, h1.2, ?_⟩, h3⟩
    by_cases hf : r.fin = -1
    · exact .inl hf
    · exact .inr ⟨by have : ¬ r.fin < r.hi := fun h => h4 ⟨hf, h⟩; omega, h5⟩
  · rintro ⟨⟨h0, h1, h2, h3⟩, h4⟩
    have h5 := endB_ge h0
    have h6 := h0.2.1
    refine ⟨h0, ⟨by omega, h2⟩, h1, h4, ?_, ?_, ?_⟩
    · rintro ⟨g1, g2⟩; omega
    · omega
    · omega
theorem st_ag0 {r : Rc} (h : headRc r) (hs : r.st = 0) : okRc r ↔ r.fin = -1 ∧ r.code = 0 := by
  refine ⟨fun h2 => ?_, fun h2 => ⟨h, ?_⟩⟩
  · rcases h2.2 with ⟨g0, g1, g2⟩ | ⟨g0, g1, g2, g3⟩ | ⟨g0, g1, g2⟩ | ⟨g0, g1, g2, g3⟩ | ⟨g0, g1, g2, g3⟩
    · exact ⟨g1, g2⟩
    · omega
    · omega
    · omega
    · omega
  · exact .inl ⟨hs, h2⟩
theorem st_ag1 {r : Rc} (h : headRc r) (hs : r.st = 1) : okRc r ↔ r.fin ≠ -1 ∧ ¬ fullRc r ∧ r.code = 0 := by
  refine ⟨fun h2 => ?_, fun h2 => ⟨h, ?_⟩⟩
  · rcases h2.2 with ⟨g0, g1, g2⟩ | ⟨g0, g1, g2, g3⟩ | ⟨g0, g1, g2⟩ | ⟨g0, g1, g2, g3⟩ | ⟨g0, g1, g2, g3⟩
    · omega
    · exact ⟨g1, g2, g3⟩
    · omega
    · omega
    · omega
  · exact .inr (.inl ⟨hs, h2⟩)
theorem st_ag2 {r : Rc} (h : headRc r) (hs : r.st = 2) : okRc r ↔ fullRc r ∧ r.code = 0 := by
  refine ⟨fun h2 => ?_, fun h2 => ⟨h, ?_⟩⟩
  · rcases h2.2 with ⟨g0, g1, g2⟩ | ⟨g0, g1, g2, g3⟩ | ⟨g0, g1, g2⟩ | ⟨g0, g1, g2, g3⟩ | ⟨g0, g1, g2, g3⟩
    · omega
    · omega
    · exact ⟨g1, g2⟩
    · omega
    · omega
  · exact .inr (.inr (.inl ⟨hs, h2⟩))
theorem st_ag3 {r : Rc} (h : headRc r) (hs : r.st = 3) : okRc r ↔ (fullRc r ∧ r.code = 0) ∧ r.buf.chs = [] := by
  refine ⟨fun h2 => ?_, fun h2 => ⟨h, ?_⟩⟩
  · rcases h2.2 with ⟨g0, g1, g2⟩ | ⟨g0, g1, g2, g3⟩ | ⟨g0, g1, g2⟩ | ⟨g0, g1, g2, g3⟩ | ⟨g0, g1, g2, g3⟩
    · omega
    · omega
    · omega
    · exact ⟨⟨g1, g3⟩, g2⟩
    · omega
  · exact .inr (.inr (.inr (.inl ⟨hs, h2.1.1, h2.2, h2.1.2⟩)))
theorem st_ag4 {r : Rc} (h : headRc r) (hs : r.st = 4) : okRc r ↔ r.fin = r.hi ∧ r.buf.chs = [] := by
  refine ⟨fun h2 => ?_, fun h2 => ⟨h, ?_⟩⟩
  · rcases h2.2 with ⟨g0, g1, g2⟩ | ⟨g0, g1, g2, g3⟩ | ⟨g0, g1, g2⟩ | ⟨g0, g1, g2, g3⟩ | ⟨g0, g1, g2, g3⟩
    · omega
    · omega
    · omega
    · omega
    · exact ⟨g2.symm, g3⟩
  · exact .inr (.inr (.inr (.inr ⟨.inl hs, by have := h.2.1.1; have := h2.1; omega, h2.1.symm, h2.2⟩)))
theorem st_ag5 {r : Rc} (h : headRc r) (hs : r.st = 5) : okRc r ↔ r.fin = r.hi ∧ r.buf.chs = [] := by
  refine ⟨fun h2 => ?_, fun h2 => ⟨h, ?_⟩⟩
  · rcases h2.2 with ⟨g0, g1, g2⟩ | ⟨g0, g1, g2, g3⟩ | ⟨g0, g1, g2⟩ | ⟨g0, g1, g2, g3⟩ | ⟨g0, g1, g2, g3⟩
    · omega
    · omega
    · omega
    · omega
    · exact ⟨g2.symm, g3⟩
  · exact .inr (.inr (.inr (.inr ⟨.inr hs, by have := h.2.1.1; have := h2.1; omega, h2.1.symm, h2.2⟩)))
theorem iisrc (r : Rc) (A : Option Addr) (cap B : Nat) (w : World) (hB : B ≤ w.heap.size) (hr : Chs w B A r.buf.chs) (hn : r.buf.chs.length ≤ 1000000000) (hi : inB r.buf.chs) (hx : inRc r) :
    Calls Tryz.prog 46 #[rcV r (.slice A r.buf.chs.length cap)] w fun e w' => e = .returned (.bool (decide (okRc r))) ∧ Below w.heap.size w w' := by
  have HH := LH (InRc.start w r A cap 40 (hr.up hB))
  have HST := LH fun W => istate r.st W
  have HPL : Hid (∀ W, InRc w w.heap.size r A cap W → Calls Tryz.prog 105 #[rcV r (.slice A r.buf.chs.length cap)] W fun e w' => e = .returned (.bool (decide (plcRc r))) ∧ Below W.heap.size W w') := LH fun W h => iplc r A cap w.heap.size W (Nat.le_of_lt h.2.2.1) h.2.1 hn hi hx
  by_cases hs : 0 ≤ r.st ∧ r.st ≤ 5
  rotate_left
  · have HV : Hid (decide (okRc r) = false) := LH (decide_eq_false (fun h => hs (by rcases h.2 with h | h | h | h | h <;> omega)))
    rw [stVn hs, decide_eq_false hs] at HST
    clear hr hi hx hn hs
    go_enter Tryz.func46, Tryz.ntmps46
    obtain ⟨a0, a1, a2, a3, a4, a5⟩ := HH.out.1
    go_wp2_with fail
    refine (HST.out _).mono ?_
    rintro e w1 ⟨rfl, rfl⟩
    clear a0 a1 a2 a3 a4 a5
    obtain ⟨a0, a1, a2, a3, a4, a5⟩ := HH.out.1
    go_wp2
    go_ret
    exact ⟨by rw [HV.out]; rfl, HH.out.2.2.2⟩
  rw [decide_eq_true hs] at HST
  by_cases hp : plcRc r
  rotate_left
  · have HV : Hid (decide (okRc r) = false) := LH (decide_eq_false (fun h => hp (plc_head.1 h.1).1))
    rw [decide_eq_false hp] at HPL
    clear hr hi hx hn hs hp
    generalize stV r.st = sv at *
    go_enter Tryz.func46, Tryz.ntmps46
    obtain ⟨a0, a1, a2, a3, a4, a5⟩ := HH.out.1
    go_wp2_with fail
    refine (HST.out _).mono ?_
    rintro e w1 ⟨rfl, rfl⟩
    clear a0 a1 a2 a3 a4 a5
    obtain ⟨a0, a1, a2, a3, a4, a5⟩ := HH.out.1
    go_wp2_with fail
    refine (HPL.out _ HH.out).mono ?_
    rintro e w1 ⟨rfl, hb1⟩
    have HH := LH (HH.out.next hb1)
    clear hb1 a0 a1 a2 a3 a4 a5
    obtain ⟨a0, a1, a2, a3, a4, a5⟩ := HH.out.1
    go_wp2
    go_ret
    exact ⟨by rw [HV.out]; rfl, HH.out.2.2.2⟩
  rw [decide_eq_true hp] at HPL
  by_cases hc : 0 ≤ r.code
  rotate_left
  · have HV : Hid (decide (okRc r) = false) := LH (decide_eq_false (fun h => hc (plc_head.1 h.1).2.1))
    have dc : decide (0 ≤ r.code) = false := decide_eq_false hc
    clear hr hi hx hn hs hp hc
    generalize stV r.st = sv at *
    go_enter Tryz.func46, Tryz.ntmps46
    obtain ⟨a0, a1, a2, a3, a4, a5⟩ := HH.out.1
    go_wp2_with fail
    refine (HST.out _).mono ?_
    rintro e w1 ⟨rfl, rfl⟩
    clear a0 a1 a2 a3 a4 a5
    obtain ⟨a0, a1, a2, a3, a4, a5⟩ := HH.out.1
    go_wp2_with fail
    refine (HPL.out _ HH.out).mono ?_
    rintro e w1 ⟨rfl, hb1⟩
    have HH := LH (HH.out.next hb1)
    clear hb1 a0 a1 a2 a3 a4 a5
    obtain ⟨a0, a1, a2, a3, a4, a5⟩ := HH.out.1
    go_wp2
    go_ret
    exact ⟨by rw [HV.out]; rfl, HH.out.2.2.2⟩
  have dc : decide (0 ≤ r.code) = true := decide_eq_true hc
  by_cases hd : r.code ≤ 4611686018427387903
  rotate_left
  · have HV : Hid (decide (okRc r) = false) := LH (decide_eq_false (fun h => hd (plc_head.1 h.1).2.2))
    have dd : decide (r.code ≤ 4611686018427387903) = false := decide_eq_false hd
    clear hr hi hx hn hs hp hc hd
    generalize stV r.st = sv at *
    go_enter Tryz.func46, Tryz.ntmps46
    obtain ⟨a0, a1, a2, a3, a4, a5⟩ := HH.out.1
    go_wp2_with fail
    refine (HST.out _).mono ?_
    rintro e w1 ⟨rfl, rfl⟩
    clear a0 a1 a2 a3 a4 a5
    obtain ⟨a0, a1, a2, a3, a4, a5⟩ := HH.out.1
    go_wp2_with fail
    refine (HPL.out _ HH.out).mono ?_
    rintro e w1 ⟨rfl, hb1⟩
    have HH := LH (HH.out.next hb1)
    clear hb1 a0 a1 a2 a3 a4 a5
    obtain ⟨a0, a1, a2, a3, a4, a5⟩ := HH.out.1
    go_wp2
    go_ret
    exact ⟨by rw [HV.out]; rfl, HH.out.2.2.2⟩
  have dd : decide (r.code ≤ 4611686018427387903) = true := decide_eq_true hd
  have hh : headRc r := plc_head.2 ⟨hp, hc, hd⟩
  have hb : okB r.buf := hp.1
  have hs2 : r.st = 0 ∨ r.st = 1 ∨ r.st = 2 ∨ r.st = 3 ∨ r.st = 4 ∨ r.st = 5 := by omega
  rcases hs2 with h | h | h | h | h | h
  · have HAG : Hid (∀ W, InRc w w.heap.size r A cap W → Calls Tryz.prog 187 #[.agg #[], rcV r (.slice A r.buf.chs.length cap)] W fun e w' => e = .returned (.bool (decide (okRc r))) ∧ Below W.heap.size W w') := LH fun W h9 => by
      rw [show decide (okRc r) = decide (r.fin = -1 ∧ r.code = 0) from decide_eq_decide.2 (st_ag0 hh h)]
      exact iag0 r A cap w.heap.size W (Nat.le_of_lt h9.2.2.1) h9.2.1
    have hm := magrees0
    rw [stV0 h] at HST
    obtain ⟨bz, hbz⟩ : ∃ b, decide (okRc r) = b := ⟨_, rfl⟩
    rw [hbz] at HAG
    have HV := LH hbz
    clear hr hi hx hn hs hp hc hd hh hb h hbz
    go_enter Tryz.func46, Tryz.ntmps46
    obtain ⟨a0, a1, a2, a3, a4, a5⟩ := HH.out.1
    go_wp2_with fail
    refine (HST.out _).mono ?_
    rintro e w1 ⟨rfl, rfl⟩
    clear a0 a1 a2 a3 a4 a5
    obtain ⟨a0, a1, a2, a3, a4, a5⟩ := HH.out.1
    go_wp2_with fail
    refine (HPL.out _ HH.out).mono ?_
    rintro e w1 ⟨rfl, hb1⟩
    have HH := LH (HH.out.next hb1)
    clear hb1 a0 a1 a2 a3 a4 a5
    obtain ⟨a0, a1, a2, a3, a4, a5⟩ := HH.out.1
    go_wp2_with fail
    refine (HAG.out _ HH.out).mono ?_
    rintro e w1 ⟨rfl, hb1⟩
    have HH := LH (HH.out.next hb1)
    clear hb1 a0 a1 a2 a3 a4 a5
    obtain ⟨a0, a1, a2, a3, a4, a5⟩ := HH.out.1
    go_wp2
    go_ret
    exact ⟨by rw [HV.out]; rfl, HH.out.2.2.2⟩
  · have HAG : Hid (∀ W, InRc w w.heap.size r A cap W → Calls Tryz.prog 189 #[.agg #[], rcV r (.slice A r.buf.chs.length cap)] W fun e w' => e = .returned (.bool (decide (okRc r))) ∧ Below W.heap.size W w') := LH fun W h9 => by
      rw [show decide (okRc r) = decide (r.fin ≠ -1 ∧ ¬ fullRc r ∧ r.code = 0) from decide_eq_decide.2 (st_ag1 hh h)]
      exact iag1 r A cap w.heap.size W (Nat.le_of_lt h9.2.2.1) h9.2.1 hn hi hx hb
    have hm := magrees1
    rw [stV1 h] at HST
    obtain ⟨bz, hbz⟩ : ∃ b, decide (okRc r) = b := ⟨_, rfl⟩
    rw [hbz] at HAG
    have HV := LH hbz
    clear hr hi hx hn hs hp hc hd hh hb h hbz
    go_enter Tryz.func46, Tryz.ntmps46
    obtain ⟨a0, a1, a2, a3, a4, a5⟩ := HH.out.1
    go_wp2_with fail
    refine (HST.out _).mono ?_
    rintro e w1 ⟨rfl, rfl⟩
    clear a0 a1 a2 a3 a4 a5
    obtain ⟨a0, a1, a2, a3, a4, a5⟩ := HH.out.1
    go_wp2_with fail
    refine (HPL.out _ HH.out).mono ?_
    rintro e w1 ⟨rfl, hb1⟩
    have HH := LH (HH.out.next hb1)
    clear hb1 a0 a1 a2 a3 a4 a5
    obtain ⟨a0, a1, a2, a3, a4, a5⟩ := HH.out.1
    go_wp2_with fail
    refine (HAG.out _ HH.out).mono ?_
    rintro e w1 ⟨rfl, hb1⟩
    have HH := LH (HH.out.next hb1)
    clear hb1 a0 a1 a2 a3 a4 a5
    obtain ⟨a0, a1, a2, a3, a4, a5⟩ := HH.out.1
    go_wp2
    go_ret
    exact ⟨by rw [HV.out]; rfl, HH.out.2.2.2⟩
  · have HAG : Hid (∀ W, InRc w w.heap.size r A cap W → Calls Tryz.prog 191 #[.agg #[], rcV r (.slice A r.buf.chs.length cap)] W fun e w' => e = .returned (.bool (decide (okRc r))) ∧ Below W.heap.size W w') := LH fun W h9 => by
      rw [show decide (okRc r) = decide (fullRc r ∧ r.code = 0) from decide_eq_decide.2 (st_ag2 hh h)]
      exact iag2 r A cap w.heap.size W (Nat.le_of_lt h9.2.2.1) h9.2.1 hn hi hx hb
    have hm := magrees2
    rw [stV2 h] at HST
    obtain ⟨bz, hbz⟩ : ∃ b, decide (okRc r) = b := ⟨_, rfl⟩
    rw [hbz] at HAG
    have HV := LH hbz
    clear hr hi hx hn hs hp hc hd hh hb h hbz
    go_enter Tryz.func46, Tryz.ntmps46
    obtain ⟨a0, a1, a2, a3, a4, a5⟩ := HH.out.1
    go_wp2_with fail
    refine (HST.out _).mono ?_
    rintro e w1 ⟨rfl, rfl⟩
    clear a0 a1 a2 a3 a4 a5
    obtain ⟨a0, a1, a2, a3, a4, a5⟩ := HH.out.1
    go_wp2_with fail
    refine (HPL.out _ HH.out).mono ?_
    rintro e w1 ⟨rfl, hb1⟩
    have HH := LH (HH.out.next hb1)
    clear hb1 a0 a1 a2 a3 a4 a5
    obtain ⟨a0, a1, a2, a3, a4, a5⟩ := HH.out.1
    go_wp2_with fail
    refine (HAG.out _ HH.out).mono ?_
    rintro e w1 ⟨rfl, hb1⟩
    have HH := LH (HH.out.next hb1)
    clear hb1 a0 a1 a2 a3 a4 a5
    obtain ⟨a0, a1, a2, a3, a4, a5⟩ := HH.out.1
    go_wp2
    go_ret
    exact ⟨by rw [HV.out]; rfl, HH.out.2.2.2⟩
  · have HAG : Hid (∀ W, InRc w w.heap.size r A cap W → Calls Tryz.prog 195 #[.agg #[], rcV r (.slice A r.buf.chs.length cap)] W fun e w' => e = .returned (.bool (decide (okRc r))) ∧ Below W.heap.size W w') := LH fun W h9 => by
      rw [show decide (okRc r) = decide ((fullRc r ∧ r.code = 0) ∧ r.buf.chs = []) from decide_eq_decide.2 (st_ag3 hh h)]
      exact iag3 r A cap w.heap.size W (Nat.le_of_lt h9.2.2.1) h9.2.1 hn hi hx hb
    have hm := magrees3
    rw [stV3 h] at HST
    obtain ⟨bz, hbz⟩ : ∃ b, decide (okRc r) = b := ⟨_, rfl⟩
    rw [hbz] at HAG
    have HV := LH hbz
    clear hr hi hx hn hs hp hc hd hh hb h hbz
    go_enter Tryz.func46, Tryz.ntmps46
    obtain ⟨a0, a1, a2, a3, a4, a5⟩ := HH.out.1
    go_wp2_with fail
    refine (HST.out _).mono ?_
    rintro e w1 ⟨rfl, rfl⟩
    clear a0 a1 a2 a3 a4 a5
    obtain ⟨a0, a1, a2, a3, a4, a5⟩ := HH.out.1
    go_wp2_with fail
    refine (HPL.out _ HH.out).mono ?_
    rintro e w1 ⟨rfl, hb1⟩
    have HH := LH (HH.out.next hb1)
    clear hb1 a0 a1 a2 a3 a4 a5
    obtain ⟨a0, a1, a2, a3, a4, a5⟩ := HH.out.1
    go_wp2_with fail
    refine (HAG.out _ HH.out).mono ?_
    rintro e w1 ⟨rfl, hb1⟩
    have HH := LH (HH.out.next hb1)
    clear hb1 a0 a1 a2 a3 a4 a5
    obtain ⟨a0, a1, a2, a3, a4, a5⟩ := HH.out.1
    go_wp2
    go_ret
    exact ⟨by rw [HV.out]; rfl, HH.out.2.2.2⟩
  · have HAG : Hid (∀ W, InRc w w.heap.size r A cap W → Calls Tryz.prog 193 #[.agg #[], rcV r (.slice A r.buf.chs.length cap)] W fun e w' => e = .returned (.bool (decide (okRc r))) ∧ Below W.heap.size W w') := LH fun W h9 => by
      rw [show decide (okRc r) = decide (r.fin = r.hi ∧ r.buf.chs = []) from decide_eq_decide.2 (st_ag4 hh h)]
      exact iag4 r A cap w.heap.size W (Nat.le_of_lt h9.2.2.1) h9.2.1
    have hm := magrees4
    rw [stV4 h] at HST
    obtain ⟨bz, hbz⟩ : ∃ b, decide (okRc r) = b := ⟨_, rfl⟩
    rw [hbz] at HAG
    have HV := LH hbz
    clear hr hi hx hn hs hp hc hd hh hb h hbz
    go_enter Tryz.func46, Tryz.ntmps46
    obtain ⟨a0, a1, a2, a3, a4, a5⟩ := HH.out.1
    go_wp2_with fail
    refine (HST.out _).mono ?_
    rintro e w1 ⟨rfl, rfl⟩
    clear a0 a1 a2 a3 a4 a5
    obtain ⟨a0, a1, a2, a3, a4, a5⟩ := HH.out.1
    go_wp2_with fail
    refine (HPL.out _ HH.out).mono ?_
    rintro e w1 ⟨rfl, hb1⟩
    have HH := LH (HH.out.next hb1)
    clear hb1 a0 a1 a2 a3 a4 a5
    obtain ⟨a0, a1, a2, a3, a4, a5⟩ := HH.out.1
    go_wp2_with fail
    refine (HAG.out _ HH.out).mono ?_
    rintro e w1 ⟨rfl, hb1⟩
    have HH := LH (HH.out.next hb1)
    clear hb1 a0 a1 a2 a3 a4 a5
    obtain ⟨a0, a1, a2, a3, a4, a5⟩ := HH.out.1
    go_wp2
    go_ret
    exact ⟨by rw [HV.out]; rfl, HH.out.2.2.2⟩
  · have HAG : Hid (∀ W, InRc w w.heap.size r A cap W → Calls Tryz.prog 197 #[.agg #[], rcV r (.slice A r.buf.chs.length cap)] W fun e w' => e = .returned (.bool (decide (okRc r))) ∧ Below W.heap.size W w') := LH fun W h9 => by
      rw [show decide (okRc r) = decide (r.fin = r.hi ∧ r.buf.chs = []) from decide_eq_decide.2 (st_ag5 hh h)]
      exact iag5 r A cap w.heap.size W (Nat.le_of_lt h9.2.2.1) h9.2.1
    have hm := magrees5
    rw [stV5 h] at HST
    obtain ⟨bz, hbz⟩ : ∃ b, decide (okRc r) = b := ⟨_, rfl⟩
    rw [hbz] at HAG
    have HV := LH hbz
    clear hr hi hx hn hs hp hc hd hh hb h hbz
    go_enter Tryz.func46, Tryz.ntmps46
    obtain ⟨a0, a1, a2, a3, a4, a5⟩ := HH.out.1
    go_wp2_with fail
    refine (HST.out _).mono ?_
    rintro e w1 ⟨rfl, rfl⟩
    clear a0 a1 a2 a3 a4 a5
    obtain ⟨a0, a1, a2, a3, a4, a5⟩ := HH.out.1
    go_wp2_with fail
    refine (HPL.out _ HH.out).mono ?_
    rintro e w1 ⟨rfl, hb1⟩
    have HH := LH (HH.out.next hb1)
    clear hb1 a0 a1 a2 a3 a4 a5
    obtain ⟨a0, a1, a2, a3, a4, a5⟩ := HH.out.1
    go_wp2_with fail
    refine (HAG.out _ HH.out).mono ?_
    rintro e w1 ⟨rfl, hb1⟩
    have HH := LH (HH.out.next hb1)
    clear hb1 a0 a1 a2 a3 a4 a5
    obtain ⟨a0, a1, a2, a3, a4, a5⟩ := HH.out.1
    go_wp2
    go_ret
    exact ⟨by rw [HV.out]; rfl, HH.out.2.2.2⟩
theorem iunf (r : Rc) (A : Option Addr) (cap B : Nat) (w : World) (hB : B ≤ w.heap.size) (hr : Chs w B A r.buf.chs) :
    Calls Tryz.prog 51 #[rcV r (.slice A r.buf.chs.length cap)] w fun e w' => e = .returned (.bool (decide (r.st = 0 ∨ r.st = 1))) ∧ Below w.heap.size w w' := by
  have HH := LH (InRc.start w r A cap 40 (hr.up hB))
  have HST := LH fun W => istate r.st W
  clear hr
  have hs2 : r.st = 0 ∨ r.st = 1 ∨ r.st = 2 ∨ r.st = 3 ∨ r.st = 4 ∨ r.st = 5 ∨ ¬ (0 ≤ r.st ∧ r.st ≤ 5) := by omega
  rcases hs2 with h | h | h | h | h | h | h
  · rw [stV0 h, decide_eq_true (show 0 ≤ r.st ∧ r.st ≤ 5 by omega)] at HST
    have HV : Hid (decide (r.st = 0 ∨ r.st = 1) = true) := LH (decide_eq_true (by omega))
    have q0 := as0_0
    have q1 := as0_1
    clear h
    go_enter Tryz.func51, Tryz.ntmps51
    obtain ⟨a0, a1, a2, a3, a4, a5⟩ := HH.out.1
    go_wp2_with fail
    refine (HST.out _).mono ?_
    rintro e w1 ⟨rfl, rfl⟩
    clear a0 a1 a2 a3 a4 a5
    obtain ⟨a0, a1, a2, a3, a4, a5⟩ := HH.out.1
    go_wp2
    go_ret
    exact ⟨by rw [HV.out]; rfl, HH.out.2.2.2⟩
  · rw [stV1 h, decide_eq_true (show 0 ≤ r.st ∧ r.st ≤ 5 by omega)] at HST
    have HV : Hid (decide (r.st = 0 ∨ r.st = 1) = true) := LH (decide_eq_true (by omega))
    have q0 := as1_0
    have q1 := as1_1
    clear h
    go_enter Tryz.func51, Tryz.ntmps51
    obtain ⟨a0, a1, a2, a3, a4, a5⟩ := HH.out.1
    go_wp2_with fail
    refine (HST.out _).mono ?_
    rintro e w1 ⟨rfl, rfl⟩
    clear a0 a1 a2 a3 a4 a5
    obtain ⟨a0, a1, a2, a3, a4, a5⟩ := HH.out.1
    go_wp2
    go_ret
    exact ⟨by rw [HV.out]; rfl, HH.out.2.2.2⟩
  · rw [stV2 h, decide_eq_true (show 0 ≤ r.st ∧ r.st ≤ 5 by omega)] at HST
    have HV : Hid (decide (r.st = 0 ∨ r.st = 1) = false) := LH (decide_eq_false (by omega))
    have q0 := as2_0
    have q1 := as2_1
    clear h
    go_enter Tryz.func51, Tryz.ntmps51
    obtain ⟨a0, a1, a2, a3, a4, a5⟩ := HH.out.1
    go_wp2_with fail
    refine (HST.out _).mono ?_
    rintro e w1 ⟨rfl, rfl⟩
    clear a0 a1 a2 a3 a4 a5
    obtain ⟨a0, a1, a2, a3, a4, a5⟩ := HH.out.1
    go_wp2
    go_ret
    exact ⟨by rw [HV.out]; rfl, HH.out.2.2.2⟩
  · rw [stV3 h, decide_eq_true (show 0 ≤ r.st ∧ r.st ≤ 5 by omega)] at HST
    have HV : Hid (decide (r.st = 0 ∨ r.st = 1) = false) := LH (decide_eq_false (by omega))
    have q0 := as3_0
    have q1 := as3_1
    clear h
    go_enter Tryz.func51, Tryz.ntmps51
    obtain ⟨a0, a1, a2, a3, a4, a5⟩ := HH.out.1
    go_wp2_with fail
    refine (HST.out _).mono ?_
    rintro e w1 ⟨rfl, rfl⟩
    clear a0 a1 a2 a3 a4 a5
    obtain ⟨a0, a1, a2, a3, a4, a5⟩ := HH.out.1
    go_wp2
    go_ret
    exact ⟨by rw [HV.out]; rfl, HH.out.2.2.2⟩
  · rw [stV4 h, decide_eq_true (show 0 ≤ r.st ∧ r.st ≤ 5 by omega)] at HST
    have HV : Hid (decide (r.st = 0 ∨ r.st = 1) = false) := LH (decide_eq_false (by omega))
    have q0 := as4_0
    have q1 := as4_1
    clear h
    go_enter Tryz.func51, Tryz.ntmps51
    obtain ⟨a0, a1, a2, a3, a4, a5⟩ := HH.out.1
    go_wp2_with fail
    refine (HST.out _).mono ?_
    rintro e w1 ⟨rfl, rfl⟩
    clear a0 a1 a2 a3 a4 a5
    obtain ⟨a0, a1, a2, a3, a4, a5⟩ := HH.out.1
    go_wp2
    go_ret
    exact ⟨by rw [HV.out]; rfl, HH.out.2.2.2⟩
  · rw [stV5 h, decide_eq_true (show 0 ≤ r.st ∧ r.st ≤ 5 by omega)] at HST
    have HV : Hid (decide (r.st = 0 ∨ r.st = 1) = false) := LH (decide_eq_false (by omega))
    have q0 := as5_0
    have q1 := as5_1
    clear h
    go_enter Tryz.func51, Tryz.ntmps51
    obtain ⟨a0, a1, a2, a3, a4, a5⟩ := HH.out.1
    go_wp2_with fail
    refine (HST.out _).mono ?_
    rintro e w1 ⟨rfl, rfl⟩
    clear a0 a1 a2 a3 a4 a5
    obtain ⟨a0, a1, a2, a3, a4, a5⟩ := HH.out.1
    go_wp2
    go_ret
    exact ⟨by rw [HV.out]; rfl, HH.out.2.2.2⟩
  · rw [stVn h, decide_eq_false (show ¬ (0 ≤ r.st ∧ r.st ≤ 5) by omega)] at HST
    have HV : Hid (decide (r.st = 0 ∨ r.st = 1) = false) := LH (decide_eq_false (by omega))
    have q0 := as6_0
    have q1 := as6_1
    clear h
    go_enter Tryz.func51, Tryz.ntmps51
    obtain ⟨a0, a1, a2, a3, a4, a5⟩ := HH.out.1
    go_wp2_with fail
    refine (HST.out _).mono ?_
    rintro e w1 ⟨rfl, rfl⟩
    clear a0 a1 a2 a3 a4 a5
    obtain ⟨a0, a1, a2, a3, a4, a5⟩ := HH.out.1
    go_wp2
    go_ret
    exact ⟨by rw [HV.out]; rfl, HH.out.2.2.2⟩
def behRc (r : Rc) : Int := if r.st = 2 ∧ r.buf.next = r.fin then 3 else if r.st = 4 then 5 else r.st
theorem ibeh (r : Rc) (A : Option Addr) (cap B : Nat) (w : World) (hB : B ≤ w.heap.size) (hr : Chs w B A r.buf.chs) :
    Calls Tryz.prog 57 #[rcV r (.slice A r.buf.chs.length cap)] w fun e w' => e = .returned (.int .i64 (behRc r)) ∧ Below w.heap.size w w' := by
  have HH := LH (InRc.start w r A cap 40 (hr.up hB))
  have HST := LH fun W => istate r.st W
  clear hr
  have hs2 : r.st = 0 ∨ r.st = 1 ∨ r.st = 2 ∨ r.st = 3 ∨ r.st = 4 ∨ r.st = 5 ∨ ¬ (0 ≤ r.st ∧ r.st ≤ 5) := by omega
  rcases hs2 with h | h | h | h | h | h | h
  · rw [stV0 h, decide_eq_true (show 0 ≤ r.st ∧ r.st ≤ 5 by omega)] at HST
    have q0 := as0_2
    have q1 := as0_4
    have HV : Hid (behRc r = r.st) := LH ((if_neg (fun h3 => by have := h3.1; omega)).trans (if_neg (by omega)))
    clear h
    go_enter Tryz.func57, Tryz.ntmps57
    obtain ⟨a0, a1, a2, a3, a4, a5⟩ := HH.out.1
    go_wp2_with fail
    refine (HST.out _).mono ?_
    rintro e w1 ⟨rfl, rfl⟩
    clear a0 a1 a2 a3 a4 a5
    obtain ⟨a0, a1, a2, a3, a4, a5⟩ := HH.out.1
    go_wp2
    go_ret
    exact ⟨by rw [HV.out]; rfl, HH.out.2.2.2⟩
  · rw [stV1 h, decide_eq_true (show 0 ≤ r.st ∧ r.st ≤ 5 by omega)] at HST
    have q0 := as1_2
    have q1 := as1_4
    have HV : Hid (behRc r = r.st) := LH ((if_neg (fun h3 => by have := h3.1; omega)).trans (if_neg (by omega)))
    clear h
    go_enter Tryz.func57, Tryz.ntmps57
    obtain ⟨a0, a1, a2, a3, a4, a5⟩ := HH.out.1
    go_wp2_with fail
    refine (HST.out _).mono ?_
    rintro e w1 ⟨rfl, rfl⟩
    clear a0 a1 a2 a3 a4 a5
    obtain ⟨a0, a1, a2, a3, a4, a5⟩ := HH.out.1
    go_wp2
    go_ret
    exact ⟨by rw [HV.out]; rfl, HH.out.2.2.2⟩
  · rw [stV2 h, decide_eq_true (show 0 ≤ r.st ∧ r.st ≤ 5 by omega)] at HST
    have q0 := as2_2
    have q1 := as2_4
    by_cases h2 : r.buf.next = r.fin
    · have d2 : (r.buf.next == r.fin) = true := by simpa using h2
      have HV : Hid (behRc r = 3) := LH (if_pos ⟨h, h2⟩)
      clear h h2
      go_enter Tryz.func57, Tryz.ntmps57
      obtain ⟨a0, a1, a2, a3, a4, a5⟩ := HH.out.1
      go_wp2_with fail
      refine (HST.out _).mono ?_
      rintro e w1 ⟨rfl, rfl⟩
      clear a0 a1 a2 a3 a4 a5
      obtain ⟨a0, a1, a2, a3, a4, a5⟩ := HH.out.1
      go_wp2
      go_ret
      exact ⟨by rw [HV.out]; rfl, HH.out.2.2.2⟩
    have d2 : (r.buf.next == r.fin) = false := by simpa using h2
    have HV : Hid (behRc r = r.st) := LH ((if_neg (fun h3 => h2 h3.2)).trans (if_neg (by omega)))
    clear h h2
    go_enter Tryz.func57, Tryz.ntmps57
    obtain ⟨a0, a1, a2, a3, a4, a5⟩ := HH.out.1
    go_wp2_with fail
    refine (HST.out _).mono ?_
    rintro e w1 ⟨rfl, rfl⟩
    clear a0 a1 a2 a3 a4 a5
    obtain ⟨a0, a1, a2, a3, a4, a5⟩ := HH.out.1
    go_wp2
    go_ret
    exact ⟨by rw [HV.out]; rfl, HH.out.2.2.2⟩
  · rw [stV3 h, decide_eq_true (show 0 ≤ r.st ∧ r.st ≤ 5 by omega)] at HST
    have q0 := as3_2
    have q1 := as3_4
    have HV : Hid (behRc r = r.st) := LH ((if_neg (fun h3 => by have := h3.1; omega)).trans (if_neg (by omega)))
    clear h
    go_enter Tryz.func57, Tryz.ntmps57
    obtain ⟨a0, a1, a2, a3, a4, a5⟩ := HH.out.1
    go_wp2_with fail
    refine (HST.out _).mono ?_
    rintro e w1 ⟨rfl, rfl⟩
    clear a0 a1 a2 a3 a4 a5
    obtain ⟨a0, a1, a2, a3, a4, a5⟩ := HH.out.1
    go_wp2
    go_ret
    exact ⟨by rw [HV.out]; rfl, HH.out.2.2.2⟩
  · rw [stV4 h, decide_eq_true (show 0 ≤ r.st ∧ r.st ≤ 5 by omega)] at HST
    have q0 := as4_2
    have q1 := as4_4
    have HV : Hid (behRc r = 5) := LH ((if_neg (fun h3 => by have := h3.1; omega)).trans (if_pos h))
    clear h
    go_enter Tryz.func57, Tryz.ntmps57
    obtain ⟨a0, a1, a2, a3, a4, a5⟩ := HH.out.1
    go_wp2_with fail
    refine (HST.out _).mono ?_
    rintro e w1 ⟨rfl, rfl⟩
    clear a0 a1 a2 a3 a4 a5
    obtain ⟨a0, a1, a2, a3, a4, a5⟩ := HH.out.1
    go_wp2
    go_ret
    exact ⟨by rw [HV.out]; rfl, HH.out.2.2.2⟩
  · rw [stV5 h, decide_eq_true (show 0 ≤ r.st ∧ r.st ≤ 5 by omega)] at HST
    have q0 := as5_2
    have q1 := as5_4
    have HV : Hid (behRc r = r.st) := LH ((if_neg (fun h3 => by have := h3.1; omega)).trans (if_neg (by omega)))
    clear h
    go_enter Tryz.func57, Tryz.ntmps57
    obtain ⟨a0, a1, a2, a3, a4, a5⟩ := HH.out.1
    go_wp2_with fail
    refine (HST.out _).mono ?_
    rintro e w1 ⟨rfl, rfl⟩
    clear a0 a1 a2 a3 a4 a5
    obtain ⟨a0, a1, a2, a3, a4, a5⟩ := HH.out.1
    go_wp2
    go_ret
    exact ⟨by rw [HV.out]; rfl, HH.out.2.2.2⟩
  · rw [stVn h, decide_eq_false (show ¬ (0 ≤ r.st ∧ r.st ≤ 5) by omega)] at HST
    have q0 := as6_2
    have q1 := as6_4
    have HV : Hid (behRc r = r.st) := LH ((if_neg (fun h3 => by have := h3.1; omega)).trans (if_neg (by omega)))
    clear h
    go_enter Tryz.func57, Tryz.ntmps57
    obtain ⟨a0, a1, a2, a3, a4, a5⟩ := HH.out.1
    go_wp2_with fail
    refine (HST.out _).mono ?_
    rintro e w1 ⟨rfl, rfl⟩
    clear a0 a1 a2 a3 a4 a5
    obtain ⟨a0, a1, a2, a3, a4, a5⟩ := HH.out.1
    go_wp2
    go_ret
    exact ⟨by rw [HV.out]; rfl, HH.out.2.2.2⟩
end Go.Proofs.YtdaoaedkjoknmaaGreat
