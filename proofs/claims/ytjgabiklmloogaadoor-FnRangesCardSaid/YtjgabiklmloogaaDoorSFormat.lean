/-
  What spec.FormatInt returns: the decimal numeral.
-/
import Derived.Test.YtjgabiklmloogaaDoorKit
import Derived.Test.YtjgabiklmloogaaDoorDec
namespace Go.Proofs.YtjgabiklmloogaaDoor
open Go.RowKit Go.Deep Go.Proofs.YtjgabiklmloogaaDoor.Num

theorem conv_digit (W : World) (v : Nat) :
    (convert 22 9 (.slice (some ⟨W.heap.size, 0, none⟩) 1 1)).run Tryd.prog (W.alloc (.cells #[.int .u8 (48 + (v : Int) % 10)] 5)) = .ok (.string ⟨[UInt8.ofNat (48 + v % 10)].toArray⟩) (W.alloc (.cells #[.int .u8 (48 + (v : Int) % 10)] 5)) :=
  conv_one W (48 + v % 10) (by omega)
/-- The numerals of numbers below zero are read digit by digit like the others. -/
theorem neg_mod (v : Nat) : (-(v : Int)).tmod 10 = -((v : Int) % 10) := by
  rw [Int.neg_tmod, Int.tmod_eq_emod_of_nonneg (by omega)]
theorem neg_div (v : Nat) : (-(v : Int)).tdiv 10 = -((v : Int) / 10) := by
  rw [Int.neg_tdiv, Int.tdiv_eq_ediv_of_nonneg (by omega)]

set_option maxRecDepth 100000 in
set_option maxHeartbeats 400000 in
theorem sfmt_pos (u : Nat) (w : World) (h0 : u ≠ 0) (h1 : u ≤ 9223372036854775807) :
    Calls Tryd.prog 44 #[.int .i64 u] w fun e w' => e = .returned (.string ⟨(Lib.decDigits u).toArray⟩) ∧ Below w.heap.size w w' := by
  have hz : ((u : Int) == 0) = false := by simpa using h0
  go_enter Tryd.func44, Tryd.ntmps44
  go_wp2
  clear hz
  go_loopw [0, 3] (fun x out wr => ∃ (v : Nat) (l : List UInt8), x = .int .i64 v ∧ v ≤ u ∧ out = .string ⟨l.toArray⟩ ∧ decR v ++ l = Lib.decDigits u ∧ Below w.heap.size w wr) (fun x _ _ => (intOf x).toNat)
  case atStart => exact ⟨u, [], rfl, Nat.le_refl _, rfl, by rw [decR_pos u h0]; simp, Below.refl _ _⟩
  case round =>
    obtain ⟨v, l, rfl, hv, rfl, he, hb⟩ := hrel
    have hl : l.length ≤ 19 := by
      have h1 := congrArg List.length he
      have h2 := dec_len u 19 (by omega) (by omega)
      rw [List.length_append] at h1
      omega
    have HE := Lib.hid he
    clear he
    by_cases hz : v = 0
    · have hq : ((v : Int) != 0) = false := by simp [hz]
      have HZ := Lib.hid hz
      clear hz
      go_wp2
      go_ret
      exact ⟨by rw [← HE.out, HZ.out, decR_zero]; rfl, hb⟩
    · have hq : ((v : Int) != 0) = true := by simpa using hz
      have HZ := Lib.hid hz
      clear hz
      have hc := conv_digit wr v
      have hadd : ∀ W : World, (Op.stringOp .add ⟨[UInt8.ofNat (48 + v % 10)].toArray⟩ ⟨l.toArray⟩).run Tryd.prog W = .ok (.string ⟨(UInt8.ofNat (48 + v % 10) :: l).toArray⟩) W := fun W => by
        rw [run_string_add_lists W _ _ (by simp) (by omega)]; rfl
      have hst := Lib.hid (decR_step v HZ.out)
      generalize UInt8.ofNat (48 + v % 10) = bb at *
      go_wp2
      have hlt : v / 10 < v := by have := HZ.out; omega
      refine ⟨⟨v / 10, bb :: l, rfl, by omega, rfl, by rw [← HE.out, hst.out]; simp, hb.alloc hb.size _⟩, ?_⟩
      simp [intOf]
      omega

set_option maxRecDepth 100000 in
set_option maxHeartbeats 400000 in
theorem sfmt_neg (u : Nat) (w : World) (h0 : u ≠ 0) (h1 : u ≤ 9223372036854775808) :
    Calls Tryd.prog 44 #[.int .i64 (-(u : Int))] w fun e w' => e = .returned (.string ⟨(45 :: Lib.decDigits u).toArray⟩) ∧ Below w.heap.size w w' := by
  have hz : (-(u : Int) == 0) = false := by simpa using h0
  have hn : -(u : Int) < 0 := by omega
  go_enter Tryd.func44, Tryd.ntmps44
  go_wp2
  clear hz
  go_loopw [0, 3] (fun x out wr => ∃ (v : Nat) (l : List UInt8), x = .int .i64 (-(v : Int)) ∧ v ≤ u ∧ out = .string ⟨l.toArray⟩ ∧ decR v ++ l = Lib.decDigits u ∧ Below w.heap.size w wr) (fun x _ _ => (-(intOf x)).toNat)
  case atStart => exact ⟨u, [], rfl, Nat.le_refl _, rfl, by rw [decR_pos u h0]; simp, Below.refl _ _⟩
  case round =>
    obtain ⟨v, l, rfl, hv, rfl, he, hb⟩ := hrel
    have hl : l.length ≤ 19 := by
      have h1 := congrArg List.length he
      have h2 := dec_len u 19 (by omega) (by omega)
      rw [List.length_append] at h1
      omega
    have HE := Lib.hid he
    clear he
    by_cases hz : v = 0
    · have hq : (-(v : Int) != 0) = false := by simp [hz]
      have HZ := Lib.hid hz
      clear hz
      have hadd : ∀ W : World, (Op.stringOp .add ⟨[45].toArray⟩ ⟨l.toArray⟩).run Tryd.prog W = .ok (.string ⟨(45 :: l).toArray⟩) W := fun W => by
        rw [run_string_add_lists W _ _ (by simp) (by omega)]; rfl
      go_wp2
      go_ret
      exact ⟨by rw [← HE.out, HZ.out, decR_zero]; rfl, hb⟩
    · have hq : (-(v : Int) != 0) = true := by simpa using hz
      have HZ := Lib.hid hz
      clear hz
      have hc := conv_digit wr v
      have hadd : ∀ W : World, (Op.stringOp .add ⟨[UInt8.ofNat (48 + v % 10)].toArray⟩ ⟨l.toArray⟩).run Tryd.prog W = .ok (.string ⟨(UInt8.ofNat (48 + v % 10) :: l).toArray⟩) W := fun W => by
        rw [run_string_add_lists W _ _ (by simp) (by omega)]; rfl
      have hst := Lib.hid (decR_step v HZ.out)
      have hm := neg_mod v
      have hd := neg_div v
      generalize UInt8.ofNat (48 + v % 10) = bb at *
      by_cases hd0 : (v : Int) % 10 = 0
      · have e0 : (48 : Int) + (v : Int) % 10 = 48 := by omega
        rw [e0] at hc
        clear e0
        go_wp2
        have hlt : v / 10 < v := by have := HZ.out; omega
        refine ⟨⟨v / 10, bb :: l, rfl, by omega, rfl, by rw [← HE.out, hst.out]; simp, hb.alloc hb.size _⟩, ?_⟩
        simp [intOf]
        omega
      · go_wp2
        have hlt : v / 10 < v := by have := HZ.out; omega
        refine ⟨⟨v / 10, bb :: l, rfl, by omega, rfl, by rw [← HE.out, hst.out]; simp, hb.alloc hb.size _⟩, ?_⟩
        simp [intOf]
        omega

theorem sfmt_zero (w : World) :
    Calls Tryd.prog 44 #[.int .i64 0] w fun e w' => e = .returned (.string ⟨(Lib.decDigits 0).toArray⟩) ∧ w = w' := by
  have h0 : Lib.decDigits 0 = [48] := Lib.decDigits_one (by omega)
  rw [h0]
  go_enter Tryd.func44, Tryd.ntmps44
  go_wp2
  go_ret
  exact ⟨rfl, rfl⟩

/-- spec.FormatInt, at every int. -/
theorem sfmt (n : Int) (w : World) (h0 : -9223372036854775808 ≤ n) (h1 : n ≤ 9223372036854775807) :
    Calls Tryd.prog 44 #[.int .i64 n] w fun e w' => e = .returned (.string ⟨(Lib.itoa n).toArray⟩) ∧ Below w.heap.size w w' := by
  by_cases hneg : n < 0
  · obtain ⟨u, rfl⟩ : ∃ u : Nat, n = -(u : Int) := ⟨n.natAbs, by omega⟩
    rw [Lib.itoa_neg u (by omega)]
    exact sfmt_neg u w (by omega) (by omega)
  · obtain ⟨u, rfl⟩ : ∃ u : Nat, n = u := ⟨n.toNat, by omega⟩
    rw [Lib.itoa_nonneg]
    by_cases hz : u = 0
    · subst hz
      exact (sfmt_zero w).mono fun e w' ⟨he, hw⟩ => ⟨he, by rw [← hw]; exact Below.refl _ _⟩
    · exact sfmt_pos u w hz (by omega)
end Go.Proofs.YtjgabiklmloogaaDoor
