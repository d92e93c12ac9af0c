/-
  What the methods of impl's store return: cellOf, write, wipe, list, read.
-/
import Derived.Test.YtkhekbfakloaoaaIRn2
import Derived.Test.YtkhekbfakloaoaaLocks
import Derived.Test.YtkhekbfakloaoaaBytes
import Derived.Test.YtkhekbfakloaoaaSRn3
import Derived.Conc.MuLone
namespace Go.Proofs.Ytkhekbfakloaoaa
open Go.RowKit Go.Deep Go.Proofs.Ytkhekbfakloaoaa.Num Go.MuLone

theorem grown_more {a b c : World} {g : Option Nat} (h : a.grownBy b g) (hb : Below b.heap.size b c) : a.grownBy c g :=
  ⟨hb.os.trans h.os, hb.tape.trans h.tape, hb.output.trans h.output, Nat.le_trans h.size hb.size, fun i hi hne => (hb.block i (Nat.lt_of_lt_of_le hi h.size)).trans (h.block i hi hne)⟩
theorem grown_drew {a b : World} {g : Option Nat} (h : a.grownBy b g) : a.grownBy b.drew g := grown_more h (Below.refl _ _).drew

set_option maxRecDepth 100000 in
/-- (*impl.cellStore).cellOf -/
theorem icellof (g : Nat) (u sz p : Int) (l : List Int) (w : World) (x : StM w g u sz l) (h1 : 1 ≤ sz) (h2 : sz ≤ 64) (hp : 0 ≤ p) :
    Calls Try.prog 66 #[.pointer (some ⟨g, 0, none⟩), .int .i64 p] w fun e w' => e = .returned (.pointer (some ⟨g, 3 + atR sz p, none⟩)) ∧ Below w.heap.size w w' := by
  have hat := atR_lt h1 p
  have hrem := tmod_at h1 hp
  have hsz0 : ¬ sz = 0 := by omega
  have c2 := x.c2
  have c2d : w.drew.cell? ⟨g, 2, none⟩ = some (.int .i64 sz) := c2
  generalize atR sz p = k at *
  have hk0 : (0 : Int) ≤ (k : Int) := by omega
  have hk1 : (k : Int) < 64 := by omega
  have hkn : k < 64 := by omega
  have d0 : decide ((k : Int) < 64) = true := decide_eq_true hk1
  clear hat x h1 h2 hp
  go_enter Try.func66, Try.ntmps66
  go_wp2
  go_region
  go_wp2
  go_ret
  exact ⟨rfl, (Below.refl w.heap.size w).drew⟩

set_option maxRecDepth 100000 in
set_option maxHeartbeats 1000000 in
/-- (*impl.cellStore).wipe -/
theorem iwipe (g : Nat) (sz b : Int) (n : Nat) (l : List Int) (w : World) (x : StM w g 0 sz l) (h1 : 1 ≤ sz) (h2 : sz ≤ 64) (hb : 0 ≤ b) (hn : b + (n : Int) ≤ 4611686018427387903) :
    Calls Try.prog 53 #[.pointer (some ⟨g, 0, none⟩), .int .i64 b, .int .i64 (b + (n : Int))] w fun e w' => e = .returned (.tuple #[]) ∧ StM w' g 0 sz (zerR sz b l n) ∧ w.grownBy w' (some g) := by
  have H1 := Lib.hid (x.lock 1)
  have HG := Lib.hid (only_setI w g 0 (.int .i32 1))
  have c0 := x.c0
  have f0 := x.free 0
  have hl64 := x.2
  clear x
  go_enter_defers Try.func53, Try.ntmps53
  go_wp2_with (go_at_call 64; refine (lock_free muLib ⟨g, 0, none⟩ _ c0 f0).mono ?_; rintro e w' ⟨rfl, rfl⟩)
  clear c0 f0
  generalize w.setCell ⟨g, 0, none⟩ (.int .i32 1) = w1 at *
  go_loopw [6] (fun i wr => ∃ j : Nat, j ≤ n ∧ i = .int .i64 (b + (j : Int)) ∧ StM wr g 1 sz (zerR sz b l j) ∧ w.grownBy wr (some g)) (fun i _ => (b + (n : Int) - intOf i).toNat)
  case atStart => exact ⟨0, Nat.zero_le _, by simp, H1.out, HG.out⟩
  case round =>
    obtain ⟨j, hj, rfl, hst, hgr⟩ := hrel
    have HS := Lib.hid hst
    have HR := Lib.hid hgr
    clear hst hgr
    by_cases hlt : j < n
    · have dlt : decide (b + (j : Int) < b + (n : Int)) = true := decide_eq_true (by omega)
      have HCO := Lib.hid (icellof g 1 sz (b + (j : Int)) _ wr HS.out h1 h2 (by omega))
      have hat := atR_lt h1 (b + (j : Int))
      have hln : (zerR sz b l j).length = l.length := zerR_len _ _ _ _
      have hkl : atR sz (b + (j : Int)) < (zerR sz b l j).length := by omega
      have HZ : Hid ((zerR sz b l j).set (atR sz (b + (j : Int))) 0 = zerR sz b l (j + 1)) := Lib.hid rfl
      have hsw : wrap64 (b + (j : Int) + 1) = b + ((j + 1 : Nat) : Int) := by unfold wrap64; omega
      have HSW := Lib.hid hsw
      generalize atR sz (b + (j : Int)) = k at *
      clear hsw hat hln
      go_wp2_with fail
      refine HCO.out.mono ?_
      rintro e w2 ⟨rfl, hb2⟩
      have HS2 := Lib.hid (HS.out.below hb2 HS.out.lt)
      have HR2 := Lib.hid (grown_more HR.out hb2)
      have hc := HS2.out.at k hkl
      have hfz := HS2.out.free (3 + k)
      have HS3 := Lib.hid (HS2.out.set k 0)
      rw [HZ.out] at HS3
      have HR3 := Lib.hid (only_moreI HR2.out (3 + k) (.int .i64 0))
      generalize (zerR sz b l j)[k] = y at hc
      clear hb2
      have hsw := HSW.out
      go_wp2
      go_roundw
      case rel => exact ⟨j + 1, hlt, congrArg (Value.int .i64) (by omega), HS3.out, HR3.out⟩
      case measure => simp [intOf]; omega
    · obtain rfl : j = n := by omega
      have dlt : decide (b + (j : Int) < b + (j : Int)) = false := decide_eq_false (by omega)
      have HS3 := Lib.hid (HS.out.lock 0)
      have HR3 := Lib.hid (only_moreI HR.out 0 (.int .i32 0))
      go_wp2
      refine leaves_cons (f := 65) (args := #[.pointer (some ⟨g, 0, none⟩)]) (by simp) (by simp [go_sem]) ?_
      refine (unlock_deferred muLib ⟨g, 0, none⟩ .returning _ HS.out.c0 (HS.out.free 0)).mono ?_
      rintro e u' w'' ⟨rfl, rfl, rfl⟩
      exact ⟨_, results_none rfl _ _ _, rfl, HS3.out, HR3.out⟩
end Go.Proofs.Ytkhekbfakloaoaa
