/-
  What spec.EncodeQuic returns.
-/
import Derived.Test.YtjbppociogoopaaDoorSSize
namespace Go.Proofs.YtjbppociogoopaaDoor
open Go.RowKit Go.Deep Go.Proofs.YtjbppociogoopaaDoor.Num

/-- An 'or' with what the two highest bits of a byte stand for. -/
theorem or_mark (a m : Nat) (ha : a < 64) (hm : m = 64 ∨ m = 128 ∨ m = 192) : bits .or .i64 (a : Int) (m : Int) = (m : Int) + (a : Int) := by
  rw [i64_or_nat a m (by omega) (by omega), Nat.or_comm, nat_join 6 m a (by rcases hm with h | h | h <;> rw [h]) ha]
  omega

set_option maxRecDepth 100000 in
/-- spec.EncodeQuic -/
theorem sencq (n : Int) (w : World) (hn : -9223372036854775808 ≤ n ∧ n ≤ 9223372036854775807) :
    Calls Tryd.prog 76 #[.int .i64 n] w fun e w' => e = .returned (.string ⟨(encQ n).toArray⟩) ∧ Below w.heap.size w w' := by
  by_cases hz : qsz n = 0
  · rw [encQ_nil n hz]
    go_enter Tryd.func76, Tryd.ntmps76
    go_wp2_with fail
    refine (ssize n w).mono ?_
    rintro e w1 ⟨rfl, rfl⟩
    rw [hz]
    go_wp2
    go_loopw [4, 5] (fun s i wr => i = .int .i64 (-1) ∧ s = .string ⟨#[]⟩ ∧ wr = w) (fun _ i _ => (intOf i).toNat)
    case atStart => exact ⟨rfl, rfl, rfl⟩
    case round =>
      obtain ⟨rfl, rfl, rfl⟩ := hrel
      go_wp2
      go_ret
      exact ⟨rfl, Below.refl _ _⟩
  · obtain ⟨hk, hd⟩ := qfit n hz
    have h0 : 0 ≤ n := by have := qsz_zero n; omega
    obtain ⟨m, rfl⟩ := Int.eq_ofNat_of_zero_le h0
    have HE : Hid (encQ (m : Int) = putQ (qsz (m : Int)) m) := Lib.hid (by rw [encQ, Int.toNat_natCast])
    rw [Int.toNat_natCast] at hd
    have hS := ssize (m : Int) w
    have HS := Lib.hid hS
    have HP := Lib.hid fun i => putQ_next (qsz (m : Int)) m i hk hd
    have HQ := Lib.hid hd
    clear hS hd
    rw [HE.out]
    generalize qsz (m : Int) = k at hk HS HE HP HQ hz
    go_enter Tryd.func76, Tryd.ntmps76
    go_wp2_with fail
    refine HS.out.mono ?_
    rintro e w1 ⟨rfl, rfl⟩
    go_wp2
    go_loopw [4, 5] (fun s i wr => ∃ j : Nat, j ≤ k ∧ i = .int .i64 ((j : Int) - 1) ∧ s = .string ⟨((putQ k m).take (k - j)).toArray⟩ ∧ Below w.heap.size w wr) (fun _ i _ => (intOf i + 1).toNat)
    case atStart => exact ⟨k, by omega, by go_num, by simp, Below.refl _ _⟩
    case round =>
      obtain ⟨j, hj, rfl, rfl, hb⟩ := hrel
      by_cases hj0 : j = 0
      · subst hj0
        go_wp2
        go_ret
        exact ⟨by simp [List.take_of_length_le, putQ_len], hb⟩
      · obtain ⟨i, rfl⟩ : ∃ i, j = i + 1 := ⟨j - 1, by omega⟩
        have hx : (m : Int) / 2 ^ (8 * i) = (dn i m : Int) := by
          rw [dn_eq, Int.natCast_ediv, Int.natCast_pow, show ((256 : Nat) : Int) = 2 ^ 8 from rfl, ← Int.pow_mul]
        have ha := and255
        have hi8 : i < 8 := by omega
        have hk8 : k ≤ 8 := by omega
        have hd63 : Hid (i + 1 = k → dn i m % 256 < 64) := Lib.hid fun e => by
          have h := HQ.out
          rw [← e, Nat.add_sub_cancel] at h
          exact Nat.lt_of_le_of_lt (Nat.mod_le _ _) h
        have HB := Lib.hid (qbyte_lt k m i hk HQ.out)
        have hs : (putQ k m).take (k - (i + 1)) ++ [UInt8.ofNat (qbyte k m i)] = (putQ k m).take (k - i) := by
          rw [HP.out i (by omega), show k - (i + 1) = k - 1 - i from by omega]
        have hadd : ∀ W : World, (Op.stringOp .add ⟨((putQ k m).take (k - (i + 1))).toArray⟩ ⟨[UInt8.ofNat (qbyte k m i)].toArray⟩).run Tryd.prog W = .ok (.string ⟨((putQ k m).take (k - i)).toArray⟩) W := fun W => by
          rw [run_string_add_lists W _ _ (by rw [List.length_take, putQ_len]; omega) (by simp), hs]
        have HS2 := Lib.hid hs
        clear hs
        by_cases hf : i + 1 = k
        · have hq : ((i : Int) == (k : Int) - 1) = true := by simp; omega
          rcases hk with hk | hk | hk | hk
          · have t2 : ((k : Int) == 2) = false := by subst hk; rfl
            have t4 : ((k : Int) == 4) = false := by subst hk; rfl
            have t8 : ((k : Int) == 8) = false := by subst hk; rfl
            have hqv : qbyte k m i = 0 + dn i m % 256 := by rw [qbyte, if_pos hf, hk]; rfl
            have HV := Lib.hid hqv
            have HK := Lib.hid hk
            have HF := Lib.hid hf
            clear hqv hk hf
            go_wp2_with (go_at_call 78; refine (sbyte _ (qbyte k m i) (by have := HV.out; have := HB.out; omega) wr).mono ?_; rintro e w1 ⟨rfl, hb1⟩)
            go_roundw
            case rel => exact ⟨i, by omega, by go_num, rfl, hb.trans (hb1.mono hb.size)⟩
            case measure => simp [intOf]
          · have t2 : ((k : Int) == 2) = true := by subst hk; rfl
            have hqv : qbyte k m i = 64 + dn i m % 256 := by rw [qbyte, if_pos hf, hk]; rfl
            have ho : bits .or .i64 ((dn i m : Int) % 256) 64 = (qbyte k m i : Int) := by
              have e := or_mark (dn i m % 256) 64 (hd63.out hf) (by decide)
              rw [show ((dn i m % 256 : Nat) : Int) = (dn i m : Int) % 256 from by omega, show ((64 : Nat) : Int) = 64 from rfl] at e
              rw [e, hqv]; omega
            have HV := Lib.hid hqv
            have HK := Lib.hid hk
            have HF := Lib.hid hf
            clear hqv hk hf
            go_wp2_with (go_at_call 78; refine (sbyte _ (qbyte k m i) (by have := HV.out; have := HB.out; omega) wr).mono ?_; rintro e w1 ⟨rfl, hb1⟩)
            go_roundw
            case rel => exact ⟨i, by omega, by go_num, rfl, hb.trans (hb1.mono hb.size)⟩
            case measure => simp [intOf]
          · have t2 : ((k : Int) == 2) = false := by subst hk; rfl
            have t4 : ((k : Int) == 4) = true := by subst hk; rfl
            have hqv : qbyte k m i = 128 + dn i m % 256 := by rw [qbyte, if_pos hf, hk]; rfl
            have ho : bits .or .i64 ((dn i m : Int) % 256) 128 = (qbyte k m i : Int) := by
              have e := or_mark (dn i m % 256) 128 (hd63.out hf) (by decide)
              rw [show ((dn i m % 256 : Nat) : Int) = (dn i m : Int) % 256 from by omega, show ((128 : Nat) : Int) = 128 from rfl] at e
              rw [e, hqv]; omega
            have HV := Lib.hid hqv
            have HK := Lib.hid hk
            have HF := Lib.hid hf
            clear hqv hk hf
            go_wp2_with (go_at_call 78; refine (sbyte _ (qbyte k m i) (by have := HV.out; have := HB.out; omega) wr).mono ?_; rintro e w1 ⟨rfl, hb1⟩)
            go_roundw
            case rel => exact ⟨i, by omega, by go_num, rfl, hb.trans (hb1.mono hb.size)⟩
            case measure => simp [intOf]
          · have t2 : ((k : Int) == 2) = false := by subst hk; rfl
            have t4 : ((k : Int) == 4) = false := by subst hk; rfl
            have t8 : ((k : Int) == 8) = true := by subst hk; rfl
            have hqv : qbyte k m i = 192 + dn i m % 256 := by rw [qbyte, if_pos hf, hk]; rfl
            have ho : bits .or .i64 ((dn i m : Int) % 256) 192 = (qbyte k m i : Int) := by
              have e := or_mark (dn i m % 256) 192 (hd63.out hf) (by decide)
              rw [show ((dn i m % 256 : Nat) : Int) = (dn i m : Int) % 256 from by omega, show ((192 : Nat) : Int) = 192 from rfl] at e
              rw [e, hqv]; omega
            have HV := Lib.hid hqv
            have HK := Lib.hid hk
            have HF := Lib.hid hf
            clear hqv hk hf
            go_wp2_with (go_at_call 78; refine (sbyte _ (qbyte k m i) (by have := HV.out; have := HB.out; omega) wr).mono ?_; rintro e w1 ⟨rfl, hb1⟩)
            go_roundw
            case rel => exact ⟨i, by omega, by go_num, rfl, hb.trans (hb1.mono hb.size)⟩
            case measure => simp [intOf]
        · have hqv : qbyte k m i = dn i m % 256 := by rw [qbyte, if_neg hf, Nat.zero_add]
          have HV := Lib.hid hqv
          clear hqv
          go_wp2_with (go_at_call 78; refine (sbyte _ (qbyte k m i) (by have := HV.out; have := HB.out; omega) wr).mono ?_; rintro e w1 ⟨rfl, hb1⟩)
          go_roundw
          case rel => exact ⟨i, by omega, by go_num, rfl, hb.trans (hb1.mono hb.size)⟩
          case measure => simp [intOf]
end Go.Proofs.YtjbppociogoopaaDoor
