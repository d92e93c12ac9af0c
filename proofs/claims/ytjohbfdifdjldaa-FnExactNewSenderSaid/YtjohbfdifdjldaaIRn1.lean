/-
  What impl.isRingSize, isNoByte, slices.ContainsFunc, impl.IsRing, RoomOf and reachesPlace return.
-/
import Derived.Test.YtjohbfdifdjldaaSRn1
namespace Go.Proofs.Ytjohbfdifdjldaa
open Go.RowKit Go.Deep Go.Proofs.Ytjohbfdifdjldaa.Num

set_option maxRecDepth 100000 in
/-- impl.isRingSize -/
theorem isize (n : Int) (w : World) :
    Calls Try.prog 43 #[.int .i64 n] w fun e w' => e = .returned (.bool (decide (powR n))) ∧ w' = w := by
  by_cases h0 : 1 ≤ n
  · have d0 : decide (1 ≤ n) = true := decide_eq_true h0
    by_cases h1 : n ≤ 64
    · have d1 : decide (n ≤ 64) = true := decide_eq_true h1
      obtain ⟨m, hm⟩ : ∃ m, n - 1 = m := ⟨_, rfl⟩
      have hw : wrap64 (n - 1) = m := by rw [← hm]; unfold wrap64; omega
      have HV := Lib.hid (pow_bits (show 0 < n by omega) h1)
      rw [hm] at HV
      clear h0 h1 hm
      go_enter Try.func43, Try.ntmps43
      go_wp2
      go_ret
      exact ⟨by rw [← HV.out]; rfl, rfl⟩
    · have d1 : decide (n ≤ 64) = false := decide_eq_false h1
      rw [decide_eq_false (show ¬ powR n from fun h => h1 h.lo.2)]
      clear h0 h1
      go_enter Try.func43, Try.ntmps43
      go_wp2
      go_ret
      exact ⟨rfl, rfl⟩
  · have d0 : decide (1 ≤ n) = false := decide_eq_false h0
    rw [decide_eq_false (show ¬ powR n from fun h => by have := h.lo.1; omega)]
    clear h0
    go_enter Try.func43, Try.ntmps43
    go_wp2
    go_ret
    exact ⟨rfl, rfl⟩

set_option maxRecDepth 100000 in
/-- impl.isNoByte -/
theorem inobyte (n : Int) (w : World) :
    Calls Try.prog 54 #[.int .i64 n] w fun e w' => e = .returned (.bool (!decide (0 ≤ n ∧ n ≤ 255))) ∧ w' = w := by
  by_cases h0 : n < 0
  · have d0 : decide (n < 0) = true := decide_eq_true h0
    rw [decide_eq_false (show ¬ (0 ≤ n ∧ n ≤ 255) by omega)]
    clear h0
    go_enter Try.func54, Try.ntmps54
    go_wp2
    go_ret
    exact ⟨rfl, rfl⟩
  · have d0 : decide (n < 0) = false := decide_eq_false h0
    have HV : Hid ((!decide (0 ≤ n ∧ n ≤ 255)) = decide (255 < n)) := Lib.hid (by
      by_cases h1 : 255 < n
      · rw [decide_eq_true h1, decide_eq_false (show ¬ (0 ≤ n ∧ n ≤ 255) by omega)]; rfl
      · rw [decide_eq_false h1, decide_eq_true (show 0 ≤ n ∧ n ≤ 255 by omega)]; rfl)
    rw [HV.out]
    clear h0
    go_enter Try.func54, Try.ntmps54
    go_wp2
    go_ret
    exact ⟨rfl, rfl⟩

set_option maxRecDepth 100000 in
/-- slices.IndexFunc, of the cells that are no bytes -/
theorem iindexf (l : List Int) (A : Option Addr) (cap B : Nat) (w : World) (hr : Ints w B A l) (hn : l.length ≤ 1000000000) :
    Calls Try.prog 62 #[.slice A l.length cap, .func (.func 54) #[] #[]] w fun e w' => (∃ i : Int, e = .returned (.int .i64 i) ∧ (0 ≤ i ↔ ¬ ∀ z ∈ l, 0 ≤ z ∧ z ≤ 255)) ∧ w' = w := by
  have HN := Lib.hid hr
  clear hr
  go_enter Try.func62, Try.ntmps62
  go_wp2
  go_loop [8] (fun x => ∃ j : Nat, j ≤ l.length ∧ x = .int .i64 j ∧ ∀ z ∈ l.take j, 0 ≤ z ∧ z ≤ 255) (fun x => l.length - (intOf x).toNat)
  case atStart => exact ⟨0, Nat.zero_le _, rfl, fun z hz => by simp at hz⟩
  case round =>
    obtain ⟨j, hj, rfl, hno⟩ := hrel
    have HO := Lib.hid hno
    clear hno
    by_cases hlt : j < l.length
    · obtain ⟨b, off, rfl, hbB, hc⟩ := HN.out j hlt
      have HTK : Hid (∀ z, z ∈ l.take (j + 1) → z ∈ l.take j ∨ z = l[j]) := Lib.hid (fun z hz => by
        rw [List.take_succ_eq_append_getElem hlt] at hz
        rcases List.mem_append.1 hz with h | h
        · exact .inl h
        · exact .inr (List.mem_singleton.1 h))
      have HM : Hid (l[j] ∈ l) := Lib.hid (List.getElem_mem hlt)
      have HI := Lib.hid fun W => inobyte l[j] W
      generalize l[j] = z at *
      by_cases hz : 0 ≤ z ∧ z ≤ 255
      · have HZ := Lib.hid hz
        rw [decide_eq_true hz] at HI
        clear hz
        go_wp2_with fail
        refine (HI.out _).mono ?_
        rintro e w1 ⟨rfl, rfl⟩
        go_wp2
        go_round
        case rel => exact ⟨j + 1, hlt, by go_num, fun y hy => (HTK.out y hy).elim (fun h => HO.out y h) (fun h => by rw [h]; exact HZ.out)⟩
        case measure => simp [intOf]; omega
      · have HR : Hid (¬ ∀ y ∈ l, 0 ≤ y ∧ y ≤ 255) := Lib.hid fun h => hz (h z HM.out)
        rw [decide_eq_false hz] at HI
        clear hz
        go_wp2_with fail
        refine (HI.out _).mono ?_
        rintro e w1 ⟨rfl, rfl⟩
        go_wp2
        go_ret
        exact ⟨⟨_, rfl, fun _ => HR.out, fun _ => by omega⟩, rfl⟩
    · obtain rfl : j = l.length := by omega
      have HR : Hid (∀ z ∈ l, 0 ≤ z ∧ z ≤ 255) := Lib.hid (by
        have h := HO.out
        rwa [List.take_length] at h)
      go_wp2
      go_ret
      exact ⟨⟨_, rfl, fun h => by omega, fun h => by first | exact absurd HR.out h | (obtain ⟨z, h1, h2⟩ := h; have := HR.out z h1; omega)⟩, rfl⟩

set_option maxRecDepth 100000 in
/-- slices.ContainsFunc, of the cells that are no bytes -/
theorem icontf (l : List Int) (A : Option Addr) (cap B : Nat) (w : World) (hr : Ints w B A l) (hn : l.length ≤ 1000000000) :
    Calls Try.prog 53 #[.slice A l.length cap, .func (.func 54) #[] #[]] w fun e w' => e = .returned (.bool (!decide (∀ z ∈ l, 0 ≤ z ∧ z ≤ 255))) ∧ w' = w := by
  have HI := Lib.hid (iindexf l A cap B w hr hn)
  clear hr
  go_enter Try.func53, Try.ntmps53
  go_wp2_with fail
  refine HI.out.mono ?_
  rintro e w1 ⟨⟨i, rfl, hi⟩, rfl⟩
  have HE : Hid ((!decide (∀ z ∈ l, 0 ≤ z ∧ z ≤ 255)) = decide (0 ≤ i)) := Lib.hid (by
    rw [← decide_not]
    exact decide_eq_decide.2 hi.symm)
  clear hi
  go_wp2
  go_ret
  exact ⟨by rw [HE.out]; rfl, rfl⟩

set_option maxRecDepth 100000 in
set_option maxHeartbeats 2000000 in
/-- impl.IsRing -/
theorem iisrn (r : Rn) (A : Option Addr) (cap B : Nat) (w : World) (hB : B ≤ w.heap.size) (hr : Ints w B A r.cs) (hn : r.cs.length ≤ 1000000000) (hx : inRn r) :
    Calls Try.prog 35 #[rnV r (.slice A r.cs.length cap)] w fun e w' => e = .returned (.bool (decide (okRn r))) ∧ Below w.heap.size w w' := by
  have HH := Lib.hid (InRn.start w r A cap 24 (hr.up hB))
  have HPW := Lib.hid fun W => isize r.size W
  have HCF : Hid (∀ W, InRn w w.heap.size r A cap W → Calls Try.prog 53 #[.slice A r.cs.length cap, .func (.func 54) #[] #[]] W fun e w' => e = .returned (.bool (!decide (∀ z ∈ r.cs, 0 ≤ z ∧ z ≤ 255))) ∧ w' = W) := Lib.hid fun W h => icontf r.cs A cap _ W h.2.1 hn
  by_cases h0 : powR r.size
  rotate_left
  · have HV : Hid (decide (okRn r) = false) := Lib.hid (decide_eq_false (fun h => h0 h.1))
    rw [decide_eq_false h0] at HPW
    clear hr hn hx h0
    go_enter Try.func35, Try.ntmps35
    obtain ⟨a0, a1, a2, a3⟩ := HH.out.1
    go_wp2_with fail
    refine (HPW.out _).mono ?_
    rintro e w1 ⟨rfl, rfl⟩
    clear a0 a1 a2 a3
    obtain ⟨a0, a1, a2, a3⟩ := HH.out.1
    go_wp2
    go_ret
    exact ⟨by rw [HV.out]; rfl, HH.out.2.2.2⟩
  rw [decide_eq_true h0] at HPW
  by_cases h1 : (r.cs.length : Int) = r.size
  rotate_left
  · have HV : Hid (decide (okRn r) = false) := Lib.hid (decide_eq_false (fun h => h1 h.2.1))
    have d1 : ((r.cs.length : Int) != r.size) = true := by simpa using h1
    clear hr hn hx h0 h1
    go_enter Try.func35, Try.ntmps35
    obtain ⟨a0, a1, a2, a3⟩ := HH.out.1
    go_wp2_with fail
    refine (HPW.out _).mono ?_
    rintro e w1 ⟨rfl, rfl⟩
    clear a0 a1 a2 a3
    obtain ⟨a0, a1, a2, a3⟩ := HH.out.1
    go_wp2
    go_ret
    exact ⟨by rw [HV.out]; rfl, HH.out.2.2.2⟩
  have d1 : ((r.cs.length : Int) != r.size) = false := by simpa using h1
  by_cases h6 : ∀ z ∈ r.cs, 0 ≤ z ∧ z ≤ 255
  rotate_left
  · have HV : Hid (decide (okRn r) = false) := Lib.hid (decide_eq_false (fun h => h6 h.2.2.2.2.2.2))
    rw [decide_eq_false h6] at HCF
    clear hr hn hx h0 h1 h6
    go_enter Try.func35, Try.ntmps35
    obtain ⟨a0, a1, a2, a3⟩ := HH.out.1
    go_wp2_with fail
    refine (HPW.out _).mono ?_
    rintro e w1 ⟨rfl, rfl⟩
    clear a0 a1 a2 a3
    obtain ⟨a0, a1, a2, a3⟩ := HH.out.1
    go_wp2_with fail
    refine (HCF.out _ HH.out).mono ?_
    rintro e w1 ⟨rfl, rfl⟩
    clear a0 a1 a2 a3
    obtain ⟨a0, a1, a2, a3⟩ := HH.out.1
    go_wp2
    go_ret
    exact ⟨by rw [HV.out]; rfl, HH.out.2.2.2⟩
  rw [decide_eq_true h6] at HCF
  by_cases h2 : 0 ≤ r.base
  rotate_left
  · have HV : Hid (decide (okRn r) = false) := Lib.hid (decide_eq_false (fun h => h2 h.2.2.1))
    have d2 : decide (0 ≤ r.base) = false := decide_eq_false h2
    clear hr hn hx h0 h1 h2 h6
    go_enter Try.func35, Try.ntmps35
    obtain ⟨a0, a1, a2, a3⟩ := HH.out.1
    go_wp2_with fail
    refine (HPW.out _).mono ?_
    rintro e w1 ⟨rfl, rfl⟩
    clear a0 a1 a2 a3
    obtain ⟨a0, a1, a2, a3⟩ := HH.out.1
    go_wp2_with fail
    refine (HCF.out _ HH.out).mono ?_
    rintro e w1 ⟨rfl, rfl⟩
    clear a0 a1 a2 a3
    obtain ⟨a0, a1, a2, a3⟩ := HH.out.1
    go_wp2
    go_ret
    exact ⟨by rw [HV.out]; rfl, HH.out.2.2.2⟩
  have d2 : decide (0 ≤ r.base) = true := decide_eq_true h2
  by_cases h3 : r.base ≤ r.en
  rotate_left
  · have HV : Hid (decide (okRn r) = false) := Lib.hid (decide_eq_false (fun h => h3 h.2.2.2.1))
    have d3 : decide (r.base ≤ r.en) = false := decide_eq_false h3
    clear hr hn hx h0 h1 h2 h3 h6
    go_enter Try.func35, Try.ntmps35
    obtain ⟨a0, a1, a2, a3⟩ := HH.out.1
    go_wp2_with fail
    refine (HPW.out _).mono ?_
    rintro e w1 ⟨rfl, rfl⟩
    clear a0 a1 a2 a3
    obtain ⟨a0, a1, a2, a3⟩ := HH.out.1
    go_wp2_with fail
    refine (HCF.out _ HH.out).mono ?_
    rintro e w1 ⟨rfl, rfl⟩
    clear a0 a1 a2 a3
    obtain ⟨a0, a1, a2, a3⟩ := HH.out.1
    go_wp2
    go_ret
    exact ⟨by rw [HV.out]; rfl, HH.out.2.2.2⟩
  have d3 : decide (r.base ≤ r.en) = true := decide_eq_true h3
  obtain ⟨q, hq⟩ : ∃ q, r.en - r.base = q := ⟨_, rfl⟩
  have hw : wrap64 (r.en - r.base) = q := by
    have hx3 := hx.2.2
    rw [← hq]
    unfold wrap64
    clear hx
    omega
  by_cases h4 : q ≤ r.size
  rotate_left
  · have HV : Hid (decide (okRn r) = false) := Lib.hid (decide_eq_false (fun h => by have := h.2.2.2.2.1; omega))
    have d4 : decide (q ≤ r.size) = false := decide_eq_false h4
    clear hr hn hx h0 h1 h2 h3 h4 h6 hq
    go_enter Try.func35, Try.ntmps35
    obtain ⟨a0, a1, a2, a3⟩ := HH.out.1
    go_wp2_with fail
    refine (HPW.out _).mono ?_
    rintro e w1 ⟨rfl, rfl⟩
    clear a0 a1 a2 a3
    obtain ⟨a0, a1, a2, a3⟩ := HH.out.1
    go_wp2_with fail
    refine (HCF.out _ HH.out).mono ?_
    rintro e w1 ⟨rfl, rfl⟩
    clear a0 a1 a2 a3
    obtain ⟨a0, a1, a2, a3⟩ := HH.out.1
    go_wp2
    go_ret
    exact ⟨by rw [HV.out]; rfl, HH.out.2.2.2⟩
  have d4 : decide (q ≤ r.size) = true := decide_eq_true h4
  have HV : Hid (decide (okRn r) = decide (r.en ≤ 4611686018427387903)) := Lib.hid (decide_eq_decide.2 ⟨fun h => h.2.2.2.2.2.1, fun h => ⟨h0, h1, h2, h3, by omega, h, h6⟩⟩)
  clear hr hn hx h0 h1 h2 h3 h4 h6 hq
  go_enter Try.func35, Try.ntmps35
  obtain ⟨a0, a1, a2, a3⟩ := HH.out.1
  go_wp2_with fail
  refine (HPW.out _).mono ?_
  rintro e w1 ⟨rfl, rfl⟩
  clear a0 a1 a2 a3
  obtain ⟨a0, a1, a2, a3⟩ := HH.out.1
  go_wp2_with fail
  refine (HCF.out _ HH.out).mono ?_
  rintro e w1 ⟨rfl, rfl⟩
  clear a0 a1 a2 a3
  obtain ⟨a0, a1, a2, a3⟩ := HH.out.1
  go_wp2
  go_ret
  exact ⟨by rw [HV.out] <;> rfl, HH.out.2.2.2⟩

end Go.Proofs.Ytjohbfdifdjldaa
