/-
  What the drawing functions spec.l1Below and l1PickInt return: numbers in their ranges; each writes into its cursor alone.
-/
import Derived.Test.YtdaoaedkjoknmaaDrawByte
namespace Go.Proofs.Ytdaoaedkjoknmaa
open Go.RowKit Go.Deep Go.Proofs.Ytdaoaedkjoknmaa.Num

theorem mod_in (x n : Int) (h : 0 < n) : 0 ≤ x % n ∧ x % n ≤ n - 1 := by
  have h1 := Int.emod_nonneg x (by omega : n ≠ 0)
  have h2 := Int.emod_lt_of_pos x h
  omega

set_option maxRecDepth 100000 in
set_option maxHeartbeats 800000 in
/-- spec.l1Below -/
theorem dbelow (n : Int) (h0 : 0 < n) (hn : n ≤ 4000000000) (g B : Nat) (A : Option Addr) (len cap : Nat) (w : World) (d : Draw w g B A len cap) :
    Calls Try.prog 34 #[.pointer (some ⟨g, 0, none⟩), .int .i64 n] w (NumP 0 (n - 1) g B A len cap w) := by
  have D := Lib.hid d
  clear d
  by_cases h256 : n ≤ 256
  · go_enter Try.func34, Try.ntmps34
    go_wp2_with fail
    refine (dbyte g B A len cap _ D.out).mono ?_
    rintro e w1 ⟨x, rfl, x0, x1, d1, g1⟩
    have D1 := Lib.hid d1
    clear d1
    go_wp2
    go_ret
    exact ⟨_, rfl, (mod_in x n h0).1, (mod_in x n h0).2, D1.out, g1⟩
  · go_enter Try.func34, Try.ntmps34
    go_wp2_with fail
    refine (dbyte g B A len cap _ D.out).mono ?_
    rintro e w1 ⟨x, rfl, x0, x1, d1, g1⟩
    have D1 := Lib.hid d1
    clear d1
    go_wp2_with fail
    refine (dbyte g B A len cap _ D1.out).mono ?_
    rintro e w2 ⟨y, rfl, y0, y1, d2, g2⟩
    have D2 := Lib.hid d2
    clear d2
    go_wp2_with fail
    refine (dbyte g B A len cap _ D2.out).mono ?_
    rintro e w3 ⟨z, rfl, z0, z1, d3, g3⟩
    have D3 := Lib.hid d3
    clear d3
    go_wp2_with fail
    refine (dbyte g B A len cap _ D3.out).mono ?_
    rintro e w4 ⟨v, rfl, v0, v1, d4, g4⟩
    have D4 := Lib.hid d4
    clear d4
    go_wp2
    go_ret
    exact ⟨_, rfl, (mod_in _ n h0).1, (mod_in _ n h0).2, D4.out, only_trans (only_trans (only_trans g1 g2) g3) g4⟩

theorem only_alloc {a w : World} {g : Nat} (h : a.grownBy w (some g)) (o : Obj) : a.grownBy (w.alloc o) (some g) :=
  ⟨h.os, h.tape, h.output, Nat.le_trans h.size (by simp), fun i hi hne => (Below.heap_alloc w o i (Nat.lt_of_lt_of_le hi h.size)).trans (h.block i hi hne)⟩

set_option maxRecDepth 100000 in
set_option maxHeartbeats 800000 in
/-- spec.l1PickInt, over a row of ints of the caller's own. -/
theorem dpick (K n : Nat) (h0 : 0 < n) (hn : n ≤ 1000) (g B : Nat) (A : Option Addr) (len cap : Nat) (w : World) (d : Draw w g B A len cap) (hK : K ≠ g) (hKl : K < w.heap.size)
    (hc : ∀ j, j < n → ∃ v : Int, w.cell? ⟨K, j, none⟩ = some (.int .i64 v) ∧ -9223372036854775808 ≤ v ∧ v ≤ 9223372036854775807) :
    Calls Try.prog 39 #[.pointer (some ⟨g, 0, none⟩), .slice (some ⟨K, 0, none⟩) n n] w (NumP (-9223372036854775808) 9223372036854775807 g B A len cap w) := by
  have D := Lib.hid d
  have HC := Lib.hid hc
  clear d hc
  go_enter Try.func39, Try.ntmps39
  go_wp2_with fail
  refine (dbelow (n : Int) (by omega) (by omega) g B A len cap _ D.out).mono ?_
  rintro e w1 ⟨x, rfl, x0, x1, d1, g1⟩
  obtain ⟨j, rfl⟩ := Int.eq_ofNat_of_zero_le x0
  have hj : j < n := by omega
  obtain ⟨v, hv, v0, v1⟩ := HC.out j hj
  have hv1 : w1.cell? ⟨K, j, none⟩ = some (.int .i64 v) := (World.cell?_of_block (w := w) (g1.block K hKl (fun e => hK (Option.some.inj e)))).trans hv
  have D1 := Lib.hid d1
  have G1 := Lib.hid g1
  clear d1 g1 hv x0 x1
  go_wp2
  go_ret
  exact ⟨v, rfl, v0, v1, D1.out, G1.out⟩

/-- A row of ints written out. -/
theorem row_cells (w : World) (zs : List Int) (hz : ∀ z ∈ zs, -9223372036854775808 ≤ z ∧ z ≤ 9223372036854775807) :
    ∀ j, j < zs.length → ∃ v : Int, (w.alloc (.cells (zs.map (Value.int .i64)).toArray 3)).cell? ⟨w.heap.size, j, none⟩ = some (.int .i64 v) ∧ -9223372036854775808 ≤ v ∧ v ≤ 9223372036854775807 := by
  intro j hj
  refine ⟨zs[j], ?_, hz _ (List.getElem_mem hj)⟩
  rw [World.cell?_alloc_at _ _ _ _ rfl]
  simp [hj]

end Go.Proofs.Ytdaoaedkjoknmaa
