/-
  What spec.PeekRing returns.
-/
import Derived.Test.YtkhekbfakloaoaaSRn3
namespace Go.Proofs.Ytkhekbfakloaoaa
open Go.RowKit Go.Deep Go.Proofs.Ytkhekbfakloaoaa.Num

set_option maxRecDepth 100000 in
set_option maxHeartbeats 4000000 in
/-- spec.PeekRing -/
theorem speek (r : Rn) (o n : Int) (A : Option Addr) (cap B : Nat) (w : World) (hB : B ≤ w.heap.size) (hr : Ints w B A r.cs) (hn : r.cs.length ≤ 1000000000) (hx : inRn r) (ho : -9223372036854775808 ≤ o ∧ o ≤ 9223372036854775807) :
    Calls Try.prog 22 #[rnV r (.slice A r.cs.length cap), .int .i64 o, .int .i64 n] w fun e w' => e = .returned (.tuple #[.string (pkR r o n), .bool (decide (canP r o n))]) ∧ Below w.heap.size w w' := by
  have HH := Lib.hid (InRn.start w r A cap 26 (hr.up hB))
  have HIR : Hid (∀ W, InRn w w.heap.size r A cap W → Calls Try.prog 17 #[rnV r (.slice A r.cs.length cap)] W fun e w' => e = .returned (.bool (decide (okRn r))) ∧ Below W.heap.size W w') := Lib.hid fun W h => sisrn r A cap w.heap.size W (Nat.le_of_lt h.2.2.1) h.2.1 hn hx
  by_cases hok : okRn r
  rotate_left
  · have hno : ¬ canP r o n := fun h => hok h.1
    have HV : Hid (Value.tuple #[.string (pkR r o n), .bool (decide (canP r o n))] = .tuple #[.string ⟨#[]⟩, .bool false]) := Lib.hid (by unfold pkR; rw [if_neg hno, decide_eq_false hno])
    rw [decide_eq_false hok] at HIR
    clear hok hno hr hn hx ho
    go_enter Try.func22, Try.ntmps22
    obtain ⟨a0, a1, a2, a3⟩ := HH.out.1
    go_wp2_with fail
    refine (HIR.out _ HH.out).mono ?_
    rintro e w1 ⟨rfl, hb1⟩
    have HH := Lib.hid (HH.out.next hb1)
    clear hb1 a0 a1 a2 a3
    obtain ⟨a0, a1, a2, a3⟩ := HH.out.1
    go_wp2
    go_ret2
    exact ⟨by rw [HV.out]; rfl, HH.out.2.2.2⟩
  rw [decide_eq_true hok] at HIR
  by_cases h0 : o < r.base
  · have hno : ¬ canP r o n := fun h => by have := h.2.1; omega
    have HV : Hid (Value.tuple #[.string (pkR r o n), .bool (decide (canP r o n))] = .tuple #[.string ⟨#[]⟩, .bool false]) := Lib.hid (by unfold pkR; rw [if_neg hno, decide_eq_false hno])
    have d0 : decide (o < r.base) = true := decide_eq_true h0
    clear hok hno hr hn hx ho h0
    go_enter Try.func22, Try.ntmps22
    obtain ⟨a0, a1, a2, a3⟩ := HH.out.1
    go_wp2_with fail
    refine (HIR.out _ HH.out).mono ?_
    rintro e w1 ⟨rfl, hb1⟩
    have HH := Lib.hid (HH.out.next hb1)
    clear hb1 a0 a1 a2 a3
    obtain ⟨a0, a1, a2, a3⟩ := HH.out.1
    go_wp2
    go_ret2
    exact ⟨by rw [HV.out]; rfl, HH.out.2.2.2⟩
  have d0 : decide (o < r.base) = false := decide_eq_false h0
  by_cases h1 : n < 0
  · have hno : ¬ canP r o n := fun h => by have := h.2.2.1; omega
    have HV : Hid (Value.tuple #[.string (pkR r o n), .bool (decide (canP r o n))] = .tuple #[.string ⟨#[]⟩, .bool false]) := Lib.hid (by unfold pkR; rw [if_neg hno, decide_eq_false hno])
    have d1 : decide (n < 0) = true := decide_eq_true h1
    clear hok hno hr hn hx ho h0 h1
    go_enter Try.func22, Try.ntmps22
    obtain ⟨a0, a1, a2, a3⟩ := HH.out.1
    go_wp2_with fail
    refine (HIR.out _ HH.out).mono ?_
    rintro e w1 ⟨rfl, hb1⟩
    have HH := Lib.hid (HH.out.next hb1)
    clear hb1 a0 a1 a2 a3
    obtain ⟨a0, a1, a2, a3⟩ := HH.out.1
    go_wp2
    go_ret2
    exact ⟨by rw [HV.out]; rfl, HH.out.2.2.2⟩
  have d1 : decide (n < 0) = false := decide_eq_false h1
  by_cases h2 : r.en < o
  · have hno : ¬ canP r o n := fun h => by have := h.2.2.2.1; omega
    have HV : Hid (Value.tuple #[.string (pkR r o n), .bool (decide (canP r o n))] = .tuple #[.string ⟨#[]⟩, .bool false]) := Lib.hid (by unfold pkR; rw [if_neg hno, decide_eq_false hno])
    have d2 : decide (r.en < o) = true := decide_eq_true h2
    clear hok hno hr hn hx ho h0 h1 h2
    go_enter Try.func22, Try.ntmps22
    obtain ⟨a0, a1, a2, a3⟩ := HH.out.1
    go_wp2_with fail
    refine (HIR.out _ HH.out).mono ?_
    rintro e w1 ⟨rfl, hb1⟩
    have HH := Lib.hid (HH.out.next hb1)
    clear hb1 a0 a1 a2 a3
    obtain ⟨a0, a1, a2, a3⟩ := HH.out.1
    go_wp2
    go_ret2
    exact ⟨by rw [HV.out]; rfl, HH.out.2.2.2⟩
  have d2 : decide (r.en < o) = false := decide_eq_false h2
  obtain ⟨q, hq⟩ : ∃ q, r.en - o = q := ⟨_, rfl⟩
  have hb0 := hok.2.2.1
  have hw : wrap64 (r.en - o) = q := by have h9 := hx.2.2; rw [← hq]; clear hx; unfold wrap64; omega
  by_cases h3 : q < n
  · have hno : ¬ canP r o n := fun h => by have := h.2.2.2.2; omega
    have HV : Hid (Value.tuple #[.string (pkR r o n), .bool (decide (canP r o n))] = .tuple #[.string ⟨#[]⟩, .bool false]) := Lib.hid (by unfold pkR; rw [if_neg hno, decide_eq_false hno])
    have d3 : decide (q < n) = true := decide_eq_true h3
    clear hok hno hr hn hx ho h0 h1 h2 h3 hq hb0
    go_enter Try.func22, Try.ntmps22
    obtain ⟨a0, a1, a2, a3⟩ := HH.out.1
    go_wp2_with fail
    refine (HIR.out _ HH.out).mono ?_
    rintro e w1 ⟨rfl, hb1⟩
    have HH := Lib.hid (HH.out.next hb1)
    clear hb1 a0 a1 a2 a3
    obtain ⟨a0, a1, a2, a3⟩ := HH.out.1
    go_wp2
    go_ret2
    exact ⟨by rw [HV.out]; rfl, HH.out.2.2.2⟩
  have d3 : decide (q < n) = false := decide_eq_false h3
  have hyes : canP r o n := ⟨hok, by omega, by omega, by omega, by omega⟩
  obtain ⟨N, rfl⟩ := Int.eq_ofNat_of_zero_le (show 0 ≤ n by omega)
  have HV : Hid (Value.tuple #[.string (pkR r o (N : Int)), .bool (decide (canP r o (N : Int)))] = .tuple #[.string ⟨(peekL r.size o r.cs N).toArray⟩, .bool true]) := Lib.hid (by unfold pkR; rw [if_pos hyes, decide_eq_true hyes, Int.toNat_natCast])
  have hz1 := hok.1.lo.1
  have hz2 := hok.2.1
  have hz5 := hok.1.lo.2
  have hN64 : N ≤ 64 := by have := hok.2.2.2.2.1; omega
  have ho0 : 0 ≤ o := by omega
  have hoN : o + (N : Int) ≤ 4611686018427387903 := by have := hok.2.2.2.2.2.1; omega
  have HB := Lib.hid hok.2.2.2.2.2.2
  clear hok hyes hr hn hx ho h0 h1 h2 h3 hq hb0
  go_enter Try.func22, Try.ntmps22
  obtain ⟨a0, a1, a2, a3⟩ := HH.out.1
  go_wp2_with fail
  refine (HIR.out _ HH.out).mono ?_
  rintro e w1 ⟨rfl, hb1⟩
  have HH := Lib.hid (HH.out.next hb1)
  clear hb1 a0 a1 a2 a3
  obtain ⟨a0, a1, a2, a3⟩ := HH.out.1
  go_wp2
  clear d0 d1 d2 d3 hw a0 a1 a2 a3
  go_loopw [8, 9] (fun s i wr => ∃ j : Nat, j ≤ N ∧ i = .int .i64 j ∧ s = .string ⟨(peekL r.size o r.cs j).toArray⟩ ∧ InRn w w.heap.size r A cap wr) (fun _ i _ => N - (intOf i).toNat)
  case atStart => exact ⟨0, Nat.zero_le _, rfl, rfl, HH.out⟩
  case round =>
    obtain ⟨j, hj, rfl, rfl, hh⟩ := hrel
    have HH := Lib.hid hh
    clear hh
    by_cases hlt : j < N
    · have hat := atR_lt hz1 (o + (j : Int))
      have hkl : atR r.size (o + (j : Int)) < r.cs.length := by omega
      have HPL : Hid (peekL r.size o r.cs (j + 1) = peekL r.size o r.cs j ++ [UInt8.ofNat (r.cs.getD (atR r.size (o + (j : Int))) 0).toNat]) := Lib.hid rfl
      rw [List.getD_eq_getElem?_getD, List.getElem?_eq_getElem hkl, Option.getD_some] at HPL
      have hrem := tmod_at hz1 (show 0 ≤ o + (j : Int) by omega)
      have hsum : IntKind.i64.wrap (o + (j : Int)) = o + (j : Int) := by rw [IntKind.wrap_i64]; omega
      have hsz0 : (r.size == 0) = false := by
        have : r.size ≠ 0 := by omega
        simpa using this
      obtain ⟨b, off, rfl, hbB, hc⟩ := HH.out.2.1 _ hkl
      have hz := HB.out _ (List.getElem_mem hkl)
      have hpl := peekL_len r.size o r.cs j
      generalize r.cs[atR r.size (o + (j : Int))] = z at *
      obtain ⟨m, rfl⟩ := Int.eq_ofNat_of_zero_le hz.1
      rw [Int.toNat_natCast] at HPL
      generalize atR r.size (o + (j : Int)) = k at *
      have hadd : ∀ W : World, (Op.stringOp .add ⟨(peekL r.size o r.cs j).toArray⟩ ⟨[UInt8.ofNat m].toArray⟩).run Try.prog W = .ok (.string ⟨(peekL r.size o r.cs (j + 1)).toArray⟩) W := fun W => by
        rw [run_string_add_lists W _ _ (by omega) (by simp), HPL.out]
      have HSS : Hid (∀ W, Below wr.heap.size wr W → W.cell? ⟨w.heap.size, 0, none⟩ = some (.int .i64 r.size) ∧ W.cell? ⟨w.heap.size, 1, none⟩ = some (.int .i64 r.base) ∧ W.cell? ⟨w.heap.size, 2, none⟩ = some (.int .i64 r.en) ∧ W.cell? ⟨w.heap.size, 3, none⟩ = some (.slice (some ⟨b, off, none⟩) r.cs.length cap) ∧ W.cell? ⟨b, off + k, none⟩ = some (.int .i64 (m : Int))) := Lib.hid fun W h => by
        have h2 := (HH.out.next h).1
        exact ⟨h2.1, h2.2.1, h2.2.2.1, h2.2.2.2, (h.cell (p := ⟨b, off + k, none⟩) (by show b < _; have := HH.out.2.2.1; omega)).trans hc⟩
      have HSY := Lib.hid fun W => sbyte (m : Int) m (by omega) W
      obtain ⟨a0, a1, a2, a3, a4⟩ := HSS.out wr (Below.refl _ _)
      have HS0 := Lib.hid (HSS.out _ (Below.refl wr.heap.size wr).drew)
      clear hat hc hz hpl
      go_upto_region 7 with fail
      go_region_with (first | (go_at_call 52; refine (HSY.out _).mono ?_; rintro e w4 ⟨rfl, hb4⟩; have HB4 := Lib.hid ((Below.refl wr.heap.size wr).drew.trans hb4); have HSA := Lib.hid (HSS.out w4 HB4.out); clear hb4))
      all_goals (
        have HN := Lib.hid (HH.out.next HB4.out)
        clear a0 a1 a2 a3 a4 HSS HS0 HSA hrem hsum hsz0)
      all_goals go_wp2
      all_goals go_roundw
      all_goals first | exact ⟨j + 1, hlt, by go_num, rfl, HN.out⟩ | (simp [intOf]; omega)
    · obtain rfl : j = N := by omega
      go_wp2
      go_ret2
      exact ⟨by rw [HV.out]; rfl, HH.out.2.2.2⟩
end Go.Proofs.Ytkhekbfakloaoaa
