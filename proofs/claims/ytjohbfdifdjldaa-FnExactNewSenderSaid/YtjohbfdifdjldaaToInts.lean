/-
  What laws.toIntS and laws.eqIntS return.
-/
import Derived.Test.YtjohbfdifdjldaaInts
import Derived.Deep.QuietTactic
import Derived.BigQuiet
namespace Go.Proofs.Ytjohbfdifdjldaa
open Go.RowKit Go.Deep Go.Proofs.Ytjohbfdifdjldaa.Num

theorem below_drewN' {B : Nat} {a w : World} (h : Below B a w) (n : Nat) : Below B a (w.drewN n) := ⟨h.os, h.tape, h.output, h.size, h.block⟩
theorem cellsI_set (a b : List Int) (c x : Int) : (cellsI (a ++ c :: b)).setIfInBounds a.length (.int .i64 x) = cellsI (a ++ x :: b) := by
  unfold cellsI valsI
  rw [List.setIfInBounds_toArray]
  congr 1
  rw [List.map_append, List.map_cons, List.set_append_right _ _ (by simp)]
  simp
set_option maxRecDepth 100000 in
/-- laws.toIntS: a copy, in a new block. -/
theorem toints (zs : List Int) (A : Option Addr) (cap B : Nat) (w : World) (hB : B ≤ w.heap.size) (hr : Ints w B A zs) (hn : zs.length ≤ 1048576) :
    Calls Try.prog 51 #[.slice A zs.length cap] w fun e w' => e = .returned (.slice (some ⟨w.heap.size, 0, none⟩) zs.length zs.length) ∧ w' = w.alloc (.cells (cellsI zs) 3) := by
  have HR := Lib.hid hr
  clear hr
  have hmk := make_ints zs.length (by omega)
  go_enter Try.func51, Try.ntmps51
  go_wp2
  clear hmk
  go_loopw [4] (fun i wr => ∃ j m : Nat, j + m = zs.length ∧ i = .int .i64 j ∧ wr = w.alloc (.cells (cellsI (zs.take j ++ List.replicate m 0)) 3)) (fun i _ => zs.length - (intOf i).toNat)
  case atStart => exact ⟨0, zs.length, by omega, rfl, by simp⟩
  case round =>
    obtain ⟨j, m, hj, rfl, rfl⟩ := hrel
    cases m with
    | zero =>
      obtain rfl : j = zs.length := by omega
      go_wp2
      go_ret
      exact ⟨rfl, by first | rfl | rw [List.take_of_length_le (Nat.le_refl _), List.replicate_zero, List.append_nil]⟩
    | succ m =>
      have hlt : j < zs.length := by omega
      obtain ⟨b, off, rfl, hbB, hc0⟩ := HR.out j hlt
      have hc : ∀ o : Obj, (w.alloc o).cell? ⟨b, off + j, none⟩ = some (.int .i64 zs[j]) := fun o =>
        (World.cell?_of_block (w := w) (Below.heap_alloc w o b (by omega))).trans hc0
      have hcell : (cellsI (zs.take j ++ List.replicate (m + 1) 0))[j]? = some (.int .i64 0) := by
        rw [cellsI_at _ _ (by rw [List.length_append, List.length_take, List.length_replicate]; omega)]
        rw [List.getElem_append_right (by rw [List.length_take]; omega)]
        simp
      have hset : (cellsI (zs.take j ++ List.replicate (m + 1) 0)).setIfInBounds j (.int .i64 zs[j]) = cellsI (zs.take (j + 1) ++ List.replicate m 0) := by
        have h := cellsI_set (zs.take j) (List.replicate m 0) 0 zs[j]
        rw [List.length_take, Nat.min_eq_left (by omega)] at h
        rw [List.replicate_succ, h, List.take_succ_eq_append_getElem hlt, List.append_assoc]; rfl
      have HS := Lib.hid hset
      clear hset hc0
      have hjn : j < zs.length := hlt
      go_wp2
      go_roundw
      case rel => exact ⟨j + 1, m, by omega, by go_num, by rw [HS.out]⟩
      case measure => simp [intOf]; omega

set_option maxRecDepth 100000 in
/-- laws.eqIntS, of two slices that hold the same. -/
theorem eqints (zs : List Int) (A A' : Option Addr) (cap cap' B : Nat) (w : World) (hB : B ≤ w.heap.size) (hr : Ints w B A zs) (hr' : Ints w B A' zs) (hn : zs.length ≤ 1000000000000) :
    Calls Try.prog 44 #[.slice A zs.length cap, .slice A' zs.length cap'] w fun e w' => e = .returned (.bool true) ∧ Below w.heap.size w w' := by
  have HR := Lib.hid hr
  have HR' := Lib.hid hr'
  clear hr hr'
  go_enter Try.func44, Try.ntmps44
  go_wp2
  go_loopw [5] (fun i wr => ∃ j : Nat, j ≤ zs.length ∧ i = .int .i64 j ∧ Below w.heap.size w wr) (fun i _ => zs.length - (intOf i).toNat)
  case atStart => exact ⟨0, Nat.zero_le _, rfl, Below.refl _ _⟩
  case round =>
    obtain ⟨j, hj, rfl, hb⟩ := hrel
    have HB := Lib.hid hb
    clear hb
    by_cases hlt : j < zs.length
    · obtain ⟨b, off, rfl, hbB, hc⟩ := (HR.out.below hB HB.out) j hlt
      obtain ⟨b', off', rfl, hbB', hc'⟩ := (HR'.out.below hB HB.out) j hlt
      go_wp2
      go_quiet (fail)
      go_wp2
      go_roundw
      case rel => exact ⟨j + 1, by omega, by go_num, below_drewN' HB.out _⟩
      case measure => simp [intOf]; omega
    · obtain rfl : j = zs.length := by omega
      go_wp2
      go_ret
      exact ⟨rfl, HB.out⟩
end Go.Proofs.Ytjohbfdifdjldaa
