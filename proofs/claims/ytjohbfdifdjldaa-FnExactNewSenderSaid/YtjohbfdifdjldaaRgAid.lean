/-
  What the laws' words on ranges return: toRange, toRangeS, szRangeS.
-/
import Derived.Test.YtjohbfdifdjldaaSRng6
import Derived.Test.YtjohbfdifdjldaaRgLite
namespace Go.Proofs.Ytjohbfdifdjldaa
open Go.RowKit Go.Deep Go.Proofs.Ytjohbfdifdjldaa.Num

set_option maxRecDepth 100000 in
/-- laws.toRange -/
theorem torange (x : Rg) (w : World) :
    Calls Try.prog 52 #[rgV x] w fun e w' => e = .returned (rgV x) ∧ Below w.heap.size w w' := by
  go_enter Try.func52, Try.ntmps52
  go_wp2
  refine bodyPost_ret (results_cell_row rfl _ _ (w.heap.size + 1) _ _ _ _ rfl (rg_third w _ _ _) Try.underlying54 rfl (by kernel_rfl)) rfl ?_
  exact ⟨rfl, (((Below.refl _ _).alloc (Nat.le_refl _) _).alloc (by simp) _).alloc (by simp; omega) _⟩

/-- laws.szRangeS -/
theorem szrange (n : Nat) (A : Option Addr) (cap : Nat) (k : Int) (w : World) (hn : n ≤ 9223372036854775807) (hk : 0 ≤ k ∧ k ≤ 1048576) :
    Calls Try.prog 23 #[.slice A n cap, .int .i64 k] w fun e w' => e = .returned (.int .i64 (if k < n then -1 else k - n)) ∧ Below w.heap.size w w' := by
  have hw : IntKind.i64.wrap (k - (n : Int)) = k - n := by rw [IntKind.wrap_i64]; omega
  by_cases h : k < n
  · have hd : decide (k - (n : Int) < 0) = true := decide_eq_true (by omega)
    rw [if_pos h]
    clear h
    go_enter Try.func23, Try.ntmps23
    go_wp2
    go_ret
    exact ⟨rfl, Below.refl _ _⟩
  · have hd : decide (k - (n : Int) < 0) = false := decide_eq_false (by omega)
    rw [if_neg h]
    clear h
    go_enter Try.func23, Try.ntmps23
    go_wp2
    go_ret
    exact ⟨rfl, Below.refl _ _⟩

theorem madeR (n : Nat) : (madeCells #[Value.int .i64 0, Value.int .i64 0] (n * 2)).toList = valsR (List.replicate n (0, 0)) := by
  have h1 : ∀ n, valsR (List.replicate n ((0, 0) : Rg)) = List.replicate (n * 2) (Value.int .i64 0) := by
    intro n
    induction n with
    | zero => rfl
    | succ n ih =>
      rw [List.replicate_succ, show (n + 1) * 2 = n * 2 + 1 + 1 from by omega, List.replicate_succ, List.replicate_succ]
      show _ :: _ :: valsR _ = _
      rw [ih]
  rw [h1]
  apply List.ext_getElem?
  intro j
  by_cases hj : j < n * 2
  · rcases Nat.mod_two_eq_zero_or_one j with hm | hm <;> simp [madeCells, hj, hm]
  · simp [madeCells, hj]
theorem make_rgs (n : Nat) (hn : n ≤ 1048576) (w : World) :
    ∃ w', (Instr.makeSlice 25 (.int .i64 (n : Int)) (.int .i64 (n : Int))).run Try.prog w = .ok (.slice (some ⟨w.heap.size, 0, none⟩) n n) w' ∧ RowR w' w.heap.size w.heap.size n n (List.replicate n (0, 0)) ∧ Below w.heap.size w w' := by
  obtain ⟨i0, hi, hz0, hz1, hz2⟩ := info_parts infoR
  obtain ⟨w', h1, h2, h3⟩ := run_make_full w w.heap.size 25 54 i0 (.agg #[.int .i64 0, .int .i64 0]) 2 Try.underlying25 hi hz0 hz1 .i64 .i64 n (by rw [hz2]; omega) (by unfold maxLen; omega) (Nat.le_refl _)
  refine ⟨w', h1, ⟨by simp, ?_⟩, (Below.refl _ _).grown h3 (Nat.le_refl _) (fun k hk => by cases hk)⟩
  rw [← madeR]
  exact h2

set_option maxRecDepth 100000 in
/-- laws.toRangeS: a copy, in a new block. -/
theorem toranges (l : List Rg) (A : Option Addr) (cap B : Nat) (w : World) (hB : B ≤ w.heap.size) (hr : Rgs w B A l) (hn : l.length ≤ 1048576) :
    Calls Try.prog 33 #[.slice A l.length cap] w fun e w' => e = .returned (.slice (some ⟨w.heap.size, 0, none⟩) l.length l.length) ∧ RowR w' w.heap.size w.heap.size l.length l.length l ∧ Below w.heap.size w w' := by
  have HR := Lib.hid hr
  clear hr
  obtain ⟨w0, hmk, ho0, hb0⟩ := make_rgs l.length hn w
  have HO0 := Lib.hid ho0
  have HB0 := Lib.hid hb0
  clear ho0 hb0
  go_enter Try.func33, Try.ntmps33
  go_wp2
  clear hmk
  go_loopw [4] (fun i wr => ∃ (j : Nat) (m : List Rg), j ≤ l.length ∧ i = .int .i64 j ∧ RowR wr w.heap.size w.heap.size l.length l.length m ∧ m.take j = l.take j ∧ Below w.heap.size w wr) (fun i _ => l.length - (intOf i).toNat)
  case atStart => exact ⟨0, _, Nat.zero_le _, rfl, HO0.out, rfl, HB0.out⟩
  case round =>
    obtain ⟨j, m, hj, rfl, ho, ht, hb⟩ := hrel
    have HO := Lib.hid ho
    have HB := Lib.hid hb
    have HT := Lib.hid ht
    clear ho hb ht HO0 HB0
    by_cases hlt : j < l.length
    · have HRW := Lib.hid (HR.out.below hB HB.out)
      obtain ⟨b, off, rfl, hbB, c1, c2⟩ := HRW.out j hlt
      have HX : Hid (l[j] = l[j]) := Lib.hid rfl
      have HS : Hid (∀ x, l[j] = x → (m.set j x).take (j + 1) = l.take (j + 1)) := Lib.hid (fun x hx => set_take HO.out.1 HT.out hlt x hx)
      generalize hx : l[j] = x at *
      have HS2 := Lib.hid (HS.out x rfl)
      go_wp2_with fail
      refine (torange x _).mono ?_
      rintro e w1 ⟨rfl, hb1⟩
      have HO1 := Lib.hid (HO.out.later hb1)
      have HB1 := Lib.hid (HB.out.trans (hb1.mono HB.out.size))
      have hjm : j < m.length := by rw [HO.out.1]; exact hlt
      obtain ⟨q1, q2⟩ := HO1.out.cells j hjm
      have hfz := HO1.out.free
      clear hb1 c1 c2 hx HS HX
      go_wp2
      go_roundw
      case rel => exact ⟨j + 1, _, hlt, by go_num, HO1.out.store j hjm x.1 x.2, HS2.out, (HB1.out.setCell (p := ⟨_, _, _⟩) (Nat.le_refl _) _).setCell (p := ⟨_, _, _⟩) (Nat.le_refl _) _⟩
      case measure => simp [intOf]; omega
    · obtain rfl : j = l.length := by omega
      have HE : Hid (m = l) := Lib.hid (by
        have h := HT.out
        rw [List.take_of_length_le (by rw [HO.out.1]; exact Nat.le_refl _), List.take_of_length_le (Nat.le_refl _)] at h
        exact h)
      have HO2 := HO
      rw [HE.out] at HO2
      go_wp2
      go_ret
      exact ⟨rfl, HO2.out, HB.out⟩

end Go.Proofs.Ytjohbfdifdjldaa
