/-
  Contracts and lemmas for the law on draining.
-/
import Derived.Test.YtdaoaedkjoknmaaGreatDrZ0
import Derived.Test.YtdaoaedkjoknmaaGreatDrZ4
set_option maxRecDepth 1000000
set_option maxHeartbeats 8000000
namespace Go.Proofs.YtdaoaedkjoknmaaGreat
open Go.RowKit Go.Deep Go.Proofs.YtdaoaedkjoknmaaGreat.Num

theorem isize (n : Int) (w : World) :
    Calls Tryz.prog 79 #[.int .i64 n] w fun e w' => e = .returned (.bool (decide (powR n))) ∧ w' = w := by
  by_cases h0 : 1 ≤ n
  · have d0 : decide (1 ≤ n) = true := decide_eq_true h0
    by_cases h1 : n ≤ 64
    · have d1 : decide (n ≤ 64) = true := decide_eq_true h1
      obtain ⟨m, hm⟩ : ∃ m, n - 1 = m := ⟨_, rfl⟩
      have hw : wrap64 (n - 1) = m := by rw [← hm]; unfold wrap64; omega
      have HV := LH (pow_bits (show 0 < n by omega) h1)
      rw [hm] at HV
      clear h0 h1 hm
      go_enter Tryz.func79, Tryz.ntmps79
      go_wp2
      go_ret
      exact ⟨by rw [← HV.out]; rfl, rfl⟩
    · have d1 : decide (n ≤ 64) = false := decide_eq_false h1
      rw [decide_eq_false (show ¬ powR n from fun h => h1 h.lo.2)]
      clear h0 h1
      go_enter Tryz.func79, Tryz.ntmps79
      go_wp2
      go_ret
      exact ⟨rfl, rfl⟩
  · have d0 : decide (1 ≤ n) = false := decide_eq_false h0
    rw [decide_eq_false (show ¬ powR n from fun h => by have := h.lo.1; omega)]
    clear h0
    go_enter Tryz.func79, Tryz.ntmps79
    go_wp2
    go_ret
    exact ⟨rfl, rfl⟩

theorem inobyte (n : Int) (w : World) :
    Calls Tryz.prog 120 #[.int .i64 n] w fun e w' => e = .returned (.bool (!decide (0 ≤ n ∧ n ≤ 255))) ∧ w' = w := by
  by_cases h0 : n < 0
  · have d0 : decide (n < 0) = true := decide_eq_true h0
    rw [decide_eq_false (show ¬ (0 ≤ n ∧ n ≤ 255) by omega)]
    clear h0
    go_enter Tryz.func120, Tryz.ntmps120
    go_wp2
    go_ret
    exact ⟨rfl, rfl⟩
  · have d0 : decide (n < 0) = false := decide_eq_false h0
    have HV : Hid ((!decide (0 ≤ n ∧ n ≤ 255)) = decide (255 < n)) := LH (by
      by_cases h1 : 255 < n
      · rw [decide_eq_true h1, decide_eq_false (show ¬ (0 ≤ n ∧ n ≤ 255) by omega)]; rfl
      · rw [decide_eq_false h1, decide_eq_true (show 0 ≤ n ∧ n ≤ 255 by omega)]; rfl)
    rw [HV.out]
    clear h0
    go_enter Tryz.func120, Tryz.ntmps120
    go_wp2
    go_ret
    exact ⟨rfl, rfl⟩

theorem iindexf (l : List Int) (A : Option Addr) (cap B : Nat) (w : World) (hr : Ints w B A l) (hn : l.length ≤ 1000000000) :
    Calls Tryz.prog 144 #[.slice A l.length cap, .func (.func 120) #[] #[]] w fun e w' => (∃ i : Int, e = .returned (.int .i64 i) ∧ (0 ≤ i ↔ ¬ ∀ z ∈ l, 0 ≤ z ∧ z ≤ 255)) ∧ w' = w := by
  have HN := LH hr
  clear hr
  go_enter Tryz.func144, Tryz.ntmps144
  go_wp2
  go_loop [8] (fun x => ∃ j : Nat, j ≤ l.length ∧ x = .int .i64 j ∧ ∀ z ∈ l.take j, 0 ≤ z ∧ z ≤ 255) (fun x => l.length - (intOf x).toNat)
  case atStart => exact ⟨0, Nat.zero_le _, rfl, fun z hz => by simp at hz⟩
  case round =>
    obtain ⟨j, hj, rfl, hno⟩ := hrel
    have HO := LH hno
    clear hno
    by_cases hlt : j < l.length
    · obtain ⟨b, off, rfl, hbB, hc⟩ := HN.out j hlt
      have HTK : Hid (∀ z, z ∈ l.take (j + 1) → z ∈ l.take j ∨ z = l[j]) := LH (fun z hz => by
        rw [List.take_succ_eq_append_getElem hlt] at hz
        rcases List.mem_append.1 hz with h | h
        · exact .inl h
        · exact .inr (List.mem_singleton.1 h))
      have HM : Hid (l[j] ∈ l) := LH (List.getElem_mem hlt)
      have HI := LH fun W => inobyte l[j] W
      generalize l[j] = z at *
      by_cases hz : 0 ≤ z ∧ z ≤ 255
      · have HZ := LH hz
        rw [decide_eq_true hz] at HI
        clear hz
        go_wp2_with fail
        refine (HI.out _).mono ?_
        rintro e w1 ⟨rfl, rfl⟩
        go_wp2
        go_round
        case rel => exact ⟨j + 1, hlt, by go_num, fun y hy => (HTK.out y hy).elim (fun h => HO.out y h) (fun h => by rw [h]; exact HZ.out)⟩
        case measure => simp [intOf]; omega
      · have HR : Hid (¬ ∀ y ∈ l, 0 ≤ y ∧ y ≤ 255) := LH fun h => hz (h z HM.out)
        rw [decide_eq_false hz] at HI
        clear hz
        go_wp2_with fail
        refine (HI.out _).mono ?_
        rintro e w1 ⟨rfl, rfl⟩
        go_wp2
        go_ret
        exact ⟨⟨_, rfl, fun _ => HR.out, fun _ => by omega⟩, rfl⟩
    · obtain rfl : j = l.length := by omega
      have HR : Hid (∀ z ∈ l, 0 ≤ z ∧ z ≤ 255) := LH (by
        have h := HO.out
        rwa [List.take_length] at h)
      go_wp2
      go_ret
      exact ⟨⟨_, rfl, fun h => by omega, fun h => by first | exact absurd HR.out h | (obtain ⟨z, h1, h2⟩ := h; have := HR.out z h1; omega)⟩, rfl⟩

theorem icontf (l : List Int) (A : Option Addr) (cap B : Nat) (w : World) (hr : Ints w B A l) (hn : l.length ≤ 1000000000) :
    Calls Tryz.prog 119 #[.slice A l.length cap, .func (.func 120) #[] #[]] w fun e w' => e = .returned (.bool (!decide (∀ z ∈ l, 0 ≤ z ∧ z ≤ 255))) ∧ w' = w := by
  have HI := LH (iindexf l A cap B w hr hn)
  clear hr
  go_enter Tryz.func119, Tryz.ntmps119
  go_wp2_with fail
  refine HI.out.mono ?_
  rintro e w1 ⟨⟨i, rfl, hi⟩, rfl⟩
  have HE : Hid ((!decide (∀ z ∈ l, 0 ≤ z ∧ z ≤ 255)) = decide (0 ≤ i)) := LH (by
    rw [← decide_not]
    exact decide_eq_decide.2 hi.symm)
  clear hi
  go_wp2
  go_ret
  exact ⟨by rw [HE.out]; rfl, rfl⟩

theorem ireachn (r : Rn) (p : Int) (v : Value) (w : World) :
    Calls Tryz.prog 98 #[rnV r v, .int .i64 p] w fun e w' => e = .returned (.bool (decide (r.base ≤ p ∧ p ≤ r.en))) ∧ Below w.heap.size w w' := by
  have X := LH (BoxN.new w r.size r.base r.en v)
  have HB := LH ((Below.refl w.heap.size w).alloc (Nat.le_refl _) (.cells (rnC r.size r.base r.en v) 26))
  obtain ⟨a0, a1, a2, a3⟩ := X.out.cells
  by_cases h0 : r.base ≤ p
  · have d0 : decide (r.base ≤ p) = true := decide_eq_true h0
    have HV : Hid (decide (r.base ≤ p ∧ p ≤ r.en) = decide (p ≤ r.en)) := LH (decide_eq_decide.2 ⟨fun h => h.2, fun h => ⟨h0, h⟩⟩)
    rw [HV.out]
    clear h0
    go_enter Tryz.func98, Tryz.ntmps98
    go_wp2
    go_ret
    exact ⟨rfl, HB.out⟩
  · have d0 : decide (r.base ≤ p) = false := decide_eq_false h0
    rw [decide_eq_false (fun h => h0 h.1)]
    clear h0
    go_enter Tryz.func98, Tryz.ntmps98
    go_wp2
    go_ret
    exact ⟨rfl, HB.out⟩

theorem iisrn (r : Rn) (A : Option Addr) (cap B : Nat) (w : World) (hB : B ≤ w.heap.size) (hr : Ints w B A r.cs) (hn : r.cs.length ≤ 1000000000) (hx : inRn r) :
    Calls Tryz.prog 72 #[rnV r (.slice A r.cs.length cap)] w fun e w' => e = .returned (.bool (decide (okRn r))) ∧ Below w.heap.size w w' := by
  have HH := LH (InRn.start w r A cap 26 (hr.up hB))
  have HPW := LH fun W => isize r.size W
  have HCF : Hid (∀ W, InRn w w.heap.size r A cap W → Calls Tryz.prog 119 #[.slice A r.cs.length cap, .func (.func 120) #[] #[]] W fun e w' => e = .returned (.bool (!decide (∀ z ∈ r.cs, 0 ≤ z ∧ z ≤ 255))) ∧ w' = W) := LH fun W h => icontf r.cs A cap _ W h.2.1 hn
  by_cases h0 : powR r.size
  rotate_left
  · have HV : Hid (decide (okRn r) = false) := LH (decide_eq_false (fun h => h0 h.1))
    rw [decide_eq_false h0] at HPW
    clear hr hn hx h0
    go_enter Tryz.func72, Tryz.ntmps72
    obtain ⟨a0, a1, a2, a3⟩ := HH.out.1
    go_wp2_with fail
    refine (HPW.out _).mono ?_
    rintro e w1 ⟨rfl, rfl⟩
    clear a0 a1 a2 a3
    obtain ⟨a0, a1, a2, a3⟩ := HH.out.1
    go_wp2
    go_ret
    exact ⟨by rw [HV.out]; rfl, HH.out.2.2.2⟩
  rw [decide_eq_true h0] at HPW
  by_cases h1 : (r.cs.length : Int) = r.size
  rotate_left
  · have HV : Hid (decide (okRn r) = false) := LH (decide_eq_false (fun h => h1 h.2.1))
    have d1 : ((r.cs.length : Int) != r.size) = true := by simpa using h1
    clear hr hn hx h0 h1
    go_enter Tryz.func72, Tryz.ntmps72
    obtain ⟨a0, a1, a2, a3⟩ := HH.out.1
    go_wp2_with fail
    refine (HPW.out _).mono ?_
    rintro e w1 ⟨rfl, rfl⟩
    clear a0 a1 a2 a3
    obtain ⟨a0, a1, a2, a3⟩ := HH.out.1
    go_wp2
    go_ret
    exact ⟨by rw [HV.out]; rfl, HH.out.2.2.2⟩
  have d1 : ((r.cs.length : Int) != r.size) = false := by simpa using h1
  by_cases h6 : ∀ z ∈ r.cs, 0 ≤ z ∧ z ≤ 255
  rotate_left
  · have HV : Hid (decide (okRn r) = false) := LH (decide_eq_false (fun h => h6 h.2.2.2.2.2.2))
    rw [decide_eq_false h6] at HCF
    clear hr hn hx h0 h1 h6
    go_enter Tryz.func72, Tryz.ntmps72
    obtain ⟨a0, a1, a2, a3⟩ := HH.out.1
    go_wp2_with fail
    refine (HPW.out _).mono ?_
    rintro e w1 ⟨rfl, rfl⟩
    clear a0 a1 a2 a3
    obtain ⟨a0, a1, a2, a3⟩ := HH.out.1
    go_wp2_with fail
    refine (HCF.out _ HH.out).mono ?_
    rintro e w1 ⟨rfl, rfl⟩
    clear a0 a1 a2 a3
    obtain ⟨a0, a1, a2, a3⟩ := HH.out.1
    go_wp2
    go_ret
    exact ⟨by rw [HV.out]; rfl, HH.out.2.2.2⟩
  rw [decide_eq_true h6] at HCF
  by_cases h2 : 0 ≤ r.base
  rotate_left
  · have HV : Hid (decide (okRn r) = false) := LH (decide_eq_false (fun h => h2 h.2.2.1))
    have d2 : decide (0 ≤ r.base) = false := decide_eq_false h2
    clear hr hn hx h0 h1 h2 h6
    go_enter Tryz.func72, Tryz.ntmps72
    obtain ⟨a0, a1, a2, a3⟩ := HH.out.1
    go_wp2_with fail
    refine (HPW.out _).mono ?_
    rintro e w1 ⟨rfl, rfl⟩
    clear a0 a1 a2 a3
    obtain ⟨a0, a1, a2, a3⟩ := HH.out.1
    go_wp2_with fail
    refine (HCF.out _ HH.out).mono ?_
    rintro e w1 ⟨rfl, rfl⟩
    clear a0 a1 a2 a3
    obtain ⟨a0, a1, a2, a3⟩ := HH.out.1
    go_wp2
    go_ret
    exact ⟨by rw [HV.out]; rfl, HH.out.2.2.2⟩
  have d2 : decide (0 ≤ r.base) = true := decide_eq_true h2
  by_cases h3 : r.base ≤ r.en
  rotate_left
  · have HV : Hid (decide (okRn r) = false) := LH (decide_eq_false (fun h => h3 h.2.2.2.1))
    have d3 : decide (r.base ≤ r.en) = false := decide_eq_false h3
    clear hr hn hx h0 h1 h2 h3 h6
    go_enter Tryz.func72, Tryz.ntmps72
    obtain ⟨a0, a1, a2, a3⟩ := HH.out.1
    go_wp2_with fail
    refine (HPW.out _).mono ?_
    rintro e w1 ⟨rfl, rfl⟩
    clear a0 a1 a2 a3
    obtain ⟨a0, a1, a2, a3⟩ := HH.out.1
    go_wp2_with fail
    refine (HCF.out _ HH.out).mono ?_
    rintro e w1 ⟨rfl, rfl⟩
    clear a0 a1 a2 a3
    obtain ⟨a0, a1, a2, a3⟩ := HH.out.1
    go_wp2
    go_ret
    exact ⟨by rw [HV.out]; rfl, HH.out.2.2.2⟩
  have d3 : decide (r.base ≤ r.en) = true := decide_eq_true h3
  obtain ⟨q, hq⟩ : ∃ q, r.en - r.base = q := ⟨_, rfl⟩
  have hw : wrap64 (r.en - r.base) = q := by
    have hx3 := hx.2.2
    rw [← hq]
    unfold wrap64
    clear hx
    omega
  by_cases h4 : q ≤ r.size
  rotate_left
  · have HV : Hid (decide (okRn r) = false) := LH (decide_eq_false (fun h => by have := h.2.2.2.2.1; omega))
    have d4 : decide (q ≤ r.size) = false := decide_eq_false h4
    clear hr hn hx h0 h1 h2 h3 h4 h6 hq
    go_enter Tryz.func72, Tryz.ntmps72
    obtain ⟨a0, a1, a2, a3⟩ := HH.out.1
    go_wp2_with fail
    refine (HPW.out _).mono ?_
    rintro e w1 ⟨rfl, rfl⟩
    clear a0 a1 a2 a3
    obtain ⟨a0, a1, a2, a3⟩ := HH.out.1
    go_wp2_with fail
    refine (HCF.out _ HH.out).mono ?_
    rintro e w1 ⟨rfl, rfl⟩
    clear a0 a1 a2 a3
    obtain ⟨a0, a1, a2, a3⟩ := HH.out.1
    go_wp2
    go_ret
    exact ⟨by rw [HV.out]; rfl, HH.out.2.2.2⟩
  have d4 : decide (q ≤ r.size) = true := decide_eq_true h4
  have HV : Hid (decide (okRn r) = decide (r.en ≤ 4611686018427387903)) := LH (decide_eq_decide.2 ⟨fun h => h.2.2.2.2.2.1, fun h => ⟨h0, h1, h2, h3, by omega, h, h6⟩⟩)
  clear hr hn hx h0 h1 h2 h3 h4 h6 hq
  go_enter Tryz.func72, Tryz.ntmps72
  obtain ⟨a0, a1, a2, a3⟩ := HH.out.1
  go_wp2_with fail
  refine (HPW.out _).mono ?_
  rintro e w1 ⟨rfl, rfl⟩
  clear a0 a1 a2 a3
  obtain ⟨a0, a1, a2, a3⟩ := HH.out.1
  go_wp2_with fail
  refine (HCF.out _ HH.out).mono ?_
  rintro e w1 ⟨rfl, rfl⟩
  clear a0 a1 a2 a3
  obtain ⟨a0, a1, a2, a3⟩ := HH.out.1
  go_wp2
  go_ret
  exact ⟨by rw [HV.out] <;> rfl, HH.out.2.2.2⟩

theorem iroom (r : Rn) (A : Option Addr) (cap B : Nat) (w : World) (hB : B ≤ w.heap.size) (hr : Ints w B A r.cs) (hn : r.cs.length ≤ 1000000000) (hx : inRn r) :
    Calls Tryz.prog 82 #[rnV r (.slice A r.cs.length cap)] w fun e w' => e = .returned (.int .i64 (roomR r)) ∧ Below w.heap.size w w' := by
  have HH := LH (InRn.start w r A cap 26 (hr.up hB))
  have HIR : Hid (∀ W, InRn w w.heap.size r A cap W → Calls Tryz.prog 72 #[rnV r (.slice A r.cs.length cap)] W fun e w' => e = .returned (.bool (decide (okRn r))) ∧ Below W.heap.size W w') := LH fun W h => iisrn r A cap w.heap.size W (Nat.le_of_lt h.2.2.1) h.2.1 hn hx
  by_cases h0 : okRn r
  rotate_left
  · have HV : Hid (roomR r = 0) := LH (if_neg h0)
    rw [decide_eq_false h0] at HIR
    clear hr hn hx h0
    go_enter Tryz.func82, Tryz.ntmps82
    obtain ⟨a0, a1, a2, a3⟩ := HH.out.1
    go_wp2_with fail
    refine (HIR.out _ HH.out).mono ?_
    rintro e w1 ⟨rfl, hb1⟩
    have HH := LH (HH.out.next hb1)
    clear hb1 a0 a1 a2 a3
    obtain ⟨a0, a1, a2, a3⟩ := HH.out.1
    go_wp2
    go_ret
    exact ⟨by rw [HV.out]; rfl, HH.out.2.2.2⟩
  rw [decide_eq_true h0] at HIR
  obtain ⟨p, hp⟩ : ∃ p, r.en - r.base = p := ⟨_, rfl⟩
  obtain ⟨q, hq⟩ : ∃ q, r.size - p = q := ⟨_, rfl⟩
  obtain ⟨t, ht⟩ : ∃ t, 4611686018427387903 - r.en = t := ⟨_, rfl⟩
  have HV : Hid (roomR r = min q t) := LH (by unfold roomR; rw [if_pos h0, hp, hq, ht])
  have hl := h0.1.lo
  obtain ⟨_, _, g1, g2, g3, g4, _⟩ := h0
  have hw1 : wrap64 (r.en - r.base) = p := by clear hx; unfold wrap64; omega
  have hw2 : wrap64 (r.size - p) = q := by clear hx; unfold wrap64; omega
  have hw3 : wrap64 (4611686018427387903 - r.en) = t := by clear hx; unfold wrap64; omega
  clear hr hn hx hl g1 g2 g3 g4 hp hq ht
  go_enter Tryz.func82, Tryz.ntmps82
  obtain ⟨a0, a1, a2, a3⟩ := HH.out.1
  go_wp2_with fail
  refine (HIR.out _ HH.out).mono ?_
  rintro e w1 ⟨rfl, hb1⟩
  have HH := LH (HH.out.next hb1)
  clear hb1 a0 a1 a2 a3
  obtain ⟨a0, a1, a2, a3⟩ := HH.out.1
  go_wp2
  all_goals go_ret
  all_goals (
    refine ⟨?_, HH.out.2.2.2⟩
    rw [HV.out]
    refine congrArg (fun z => Ending.returned (.int .i64 z)) ?_
    omega)
end Go.Proofs.YtdaoaedkjoknmaaGreat
