/-
  What the drawing functions spec.l1Pick and l4Data return.
-/
import Derived.Test.YtkhekbfakloaoaaDrawOnce
namespace Go.Proofs.Ytkhekbfakloaoaa
open Go.RowKit Go.Deep Go.Proofs.Ytkhekbfakloaoaa.Num

set_option maxRecDepth 100000 in
set_option maxHeartbeats 800000 in
/-- spec.l1Pick, over a row of texts of the caller's own. -/
theorem dpicks (mx K n : Nat) (h0 : 0 < n) (hn : n ≤ 1000) (g B : Nat) (A : Option Addr) (len cap : Nat) (w : World) (d : Draw w g B A len cap) (hK : K ≠ g) (hKl : K < w.heap.size)
    (hc : ∀ j, j < n → ∃ l : List UInt8, w.cell? ⟨K, j, none⟩ = some (.string ⟨l.toArray⟩) ∧ l.length ≤ mx) :
    Calls Try.prog 62 #[.pointer (some ⟨g, 0, none⟩), .slice (some ⟨K, 0, none⟩) n n] w (TextP mx g B A len cap w) := by
  have D := Lib.hid d
  have HC := Lib.hid hc
  clear d hc
  go_enter Try.func62, Try.ntmps62
  go_wp2_with fail
  refine (dbelow (n : Int) (by omega) (by omega) g B A len cap _ D.out).mono ?_
  rintro e w1 ⟨x, rfl, x0, x1, d1, g1⟩
  obtain ⟨j, rfl⟩ := Int.eq_ofNat_of_zero_le x0
  have hj : j < n := by omega
  obtain ⟨l, hv, hl⟩ := HC.out j hj
  have hv1 : w1.cell? ⟨K, j, none⟩ = some (.string ⟨l.toArray⟩) := (World.cell?_of_block (w := w) (g1.block K hKl (fun e => hK (Option.some.inj e)))).trans hv
  have D1 := Lib.hid d1
  have G1 := Lib.hid g1
  clear d1 g1 hv x0 x1
  go_wp2
  go_ret
  exact ⟨l, rfl, hl, D1.out, G1.out⟩

/-- A row of texts written out. -/
theorem row_texts (mx : Nat) (w : World) (zs : List (List UInt8)) (hz : ∀ z ∈ zs, z.length ≤ mx) :
    ∀ j, j < zs.length → ∃ l : List UInt8, (w.alloc (.cells (zs.map fun z => Value.string ⟨z.toArray⟩).toArray 9)).cell? ⟨w.heap.size, j, none⟩ = some (.string ⟨l.toArray⟩) ∧ l.length ≤ mx := by
  intro j hj
  refine ⟨zs[j], ?_, hz _ (List.getElem_mem hj)⟩
  rw [World.cell?_alloc_at _ _ _ _ rfl]
  simp [hj]

set_option maxRecDepth 100000 in
set_option maxHeartbeats 1600000 in
/-- spec.l4Data -/
theorem d4data (most : Nat) (hm : most ≤ 100000) (g B : Nat) (A : Option Addr) (len cap : Nat) (w : World) (d : Draw w g B A len cap) :
    Calls Try.prog 38 #[.pointer (some ⟨g, 0, none⟩), .int .i64 (most : Int)] w (TextP most g B A len cap w) := by
  have D := Lib.hid d
  clear d
  go_enter Try.func38, Try.ntmps38
  go_wp2_with fail
  refine (dbelow ((most : Int) + 1) (by omega) (by omega) g B A len cap _ D.out).mono ?_
  rintro e w1 ⟨n, rfl, n0, n1, d1, g1⟩
  have D1 := Lib.hid d1
  have G1 := Lib.hid g1
  clear d1 g1
  obtain ⟨m, rfl⟩ := Int.eq_ofNat_of_zero_le n0
  go_wp2_with fail
  go_loopw [5, 6] (fun v x wr => ∃ (k : Nat) (l : List UInt8), x = .int .i64 k ∧ v = .string ⟨l.toArray⟩ ∧ l.length + k ≤ most ∧ Draw wr g B A len cap ∧ w.grownBy wr (some g)) (fun _ x _ => (intOf x).toNat)
  case atStart => exact ⟨m, [], rfl, rfl, by simp; omega, D1.out, G1.out⟩
  case round =>
    obtain ⟨k, l, rfl, rfl, hk, hd, hg⟩ := hrel
    have HD := Lib.hid hd
    have HG := Lib.hid hg
    have hlt := hd.lt
    clear hd hg
    by_cases hz : 0 < k
    · have hzd : decide (0 < (k : Int)) = true := decide_eq_true (by omega)
      have HR := Lib.hid (row_texts 1 wr [[97], [98], [99], [100]] (by decide))
      go_wp2_with fail
      refine (dpicks 1 wr.heap.size 4 (by decide) (by decide) g B A len cap _ (HD.out.alloc _) (by omega) (by simp) HR.out).mono ?_
      rintro e w3 ⟨bs, rfl, hbl, d3, g3⟩
      have D3 := Lib.hid d3
      have G3 := Lib.hid (only_trans (only_alloc HG.out _) g3)
      have hsum : l.length + bs.length ≤ 9223372036854775807 := by omega
      clear d3 g3 HR
      go_wp2
      go_roundw
      case rel => exact ⟨k - 1, l ++ bs, by congr 1; omega, by first | rfl | (congr 1; done) | (congr 1; apply ByteArray.ext; simp), by simp; omega, D3.out, G3.out⟩
      case measure => simp [intOf]; omega
    · have hzd : decide (0 < (k : Int)) = false := decide_eq_false (by omega)
      go_wp2
      go_ret
      exact ⟨l, rfl, by omega, HD.out, HG.out⟩
end Go.Proofs.Ytkhekbfakloaoaa
