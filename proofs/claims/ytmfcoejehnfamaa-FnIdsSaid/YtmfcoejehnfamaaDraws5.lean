/-
  What the drawing functions of chapter 5 return, for whatever bytes: an int and bools.
-/
import Derived.Test.YtmfcoejehnfamaaDrawOnce
namespace Go.Proofs.Ytmfcoejehnfamaa
open Go.RowKit Go.Deep Go.Proofs.Ytmfcoejehnfamaa.Num

theorem row_three (a b c : Int) (w : World) (ha : -9223372036854775808 ≤ a ∧ a ≤ 9223372036854775807) (hb : -9223372036854775808 ≤ b ∧ b ≤ 9223372036854775807) (hc : -9223372036854775808 ≤ c ∧ c ≤ 9223372036854775807) :
    ∀ j, j < 3 → ∃ v : Int, (w.alloc (.cells #[.int .i64 a, .int .i64 b, .int .i64 c] 3)).cell? ⟨w.heap.size, j, none⟩ = some (.int .i64 v) ∧ -9223372036854775808 ≤ v ∧ v ≤ 9223372036854775807 := by
  intro j hj
  rw [World.cell?_alloc_at _ _ _ _ rfl]
  match j, hj with
  | 0, _ => exact ⟨a, rfl, ha⟩
  | 1, _ => exact ⟨b, rfl, hb⟩
  | 2, _ => exact ⟨c, rfl, hc⟩
/-- spec.l5Id -/
theorem d5id (g B : Nat) (A : Option Addr) (len cap : Nat) (w : World) (d : Draw w g B A len cap) :
    Calls Try.prog 49 #[.pointer (some ⟨g, 0, none⟩)] w fun e w' => ∃ x : Int, e = .returned (.int .i64 x) ∧ Draw w' g B A len cap ∧ w.grownBy w' (some g) := by
  have D := Lib.hid d
  clear d
  go_enter Try.func49, Try.ntmps49
  go_wp2_with fail
  refine (donce 8 (by decide) (by decide) g B A len cap _ D.out).mono ?_
  rintro e w1 ⟨b, rfl, d1, g1⟩
  have D1 := Lib.hid d1
  have G1 := Lib.hid g1
  clear d1 g1 D
  cases b with
  | true =>
    have HR := Lib.hid (row_three (-1) 4611686018427387903 4611686018427387904 w1 (by decide) (by decide) (by decide))
    have hlt := D1.out.lt
    go_wp2_with fail
    refine (dpick w1.heap.size 3 (by decide) (by decide) g B A len cap _ (D1.out.alloc _) (by omega) (by simp) HR.out).mono ?_
    rintro e w2 ⟨x, rfl, _, _, d2, g2⟩
    have D2 := Lib.hid d2
    have G2 := Lib.hid (only_trans (only_alloc G1.out _) g2)
    clear d2 g2 HR
    go_wp2
    go_ret
    exact ⟨x, rfl, D2.out, G2.out⟩
  | false =>
    go_wp2_with fail
    refine (dbelow 20 (by decide) (by decide) g B A len cap _ D1.out).mono ?_
    rintro e w2 ⟨x, rfl, _, _, d2, g2⟩
    have D2 := Lib.hid d2
    have G2 := Lib.hid (only_trans G1.out g2)
    clear d2 g2
    go_wp2
    go_ret
    exact ⟨x, rfl, D2.out, G2.out⟩
/-- spec.l5Both -/
theorem d5both (A : Option Addr) (len cap : Nat) (w : World) (hlen : len ≤ maxLen) (hcode : Code w w.heap.size A len) :
    Calls Try.prog 43 #[.slice A len cap] w fun e w' => ∃ (s : Bool) (x : Int), e = .returned (.tuple #[.bool s, .int .i64 x]) ∧ Below w.heap.size w w' := by
  have HC := Lib.hid hcode
  clear hcode
  go_enter Try.func43, Try.ntmps43
  go_wp2_with fail
  refine (dnew A len cap _ hlen HC.out).mono ?_
  rintro e w1 ⟨g, rfl, hg, d1, b1⟩
  have D1 := Lib.hid d1
  have B1 := Lib.hid b1
  clear d1 b1
  go_wp2_with fail
  refine (donce 2 (by decide) (by decide) g _ A len cap _ D1.out).mono ?_
  rintro e w2 ⟨s, rfl, d2, g2⟩
  have D2 := Lib.hid d2
  have B2 := Lib.hid (B1.out.trans (only_below g2 (by omega) B1.out.size))
  clear d2 g2
  go_wp2_with fail
  refine (d5id g _ A len cap _ D2.out).mono ?_
  rintro e w3 ⟨x, rfl, d3, g3⟩
  have B3 := Lib.hid (B2.out.trans (only_below g3 (by omega) B2.out.size))
  clear d3 g3
  go_wp2
  go_ret2
  exact ⟨s, x, rfl, B3.out⟩
/-- spec.DrawCanSendOn -/
theorem draw_send (A : Option Addr) (len cap : Nat) (w : World) (hlen : len ≤ maxLen) (hcode : Code w w.heap.size A len) :
    Calls Try.prog 21 #[.slice A len cap] w fun e w' => ∃ (s : Bool) (x : Int), e = .returned (.tuple #[.bool s, .int .i64 x]) ∧ Below w.heap.size w w' := by
  have HD := Lib.hid (d5both A len cap w hlen hcode)
  clear hcode
  go_enter Try.func21, Try.ntmps21
  go_wp2_with fail
  refine HD.out.mono ?_
  rintro e w1 ⟨s, x, rfl, b1⟩
  have B1 := Lib.hid b1
  clear b1
  go_wp2
  go_ret2
  exact ⟨s, x, rfl, B1.out⟩
/-- spec.DrawMakeId -/
theorem draw_make (A : Option Addr) (len cap : Nat) (w : World) (hlen : len ≤ maxLen) (hcode : Code w w.heap.size A len) :
    Calls Try.prog 14 #[.slice A len cap] w fun e w' => ∃ (i : Int) (s u : Bool), e = .returned (.tuple #[.int .i64 i, .bool s, .bool u]) ∧ Below w.heap.size w w' := by
  have HC := Lib.hid hcode
  clear hcode
  go_enter Try.func14, Try.ntmps14
  go_wp2_with fail
  refine (dnew A len cap _ hlen HC.out).mono ?_
  rintro e w1 ⟨g, rfl, hg, d1, b1⟩
  have D1 := Lib.hid d1
  have B1 := Lib.hid b1
  clear d1 b1
  go_wp2_with fail
  refine (dbelow 9 (by decide) (by decide) g _ A len cap _ D1.out).mono ?_
  rintro e w2 ⟨i, rfl, _, _, d2, g2⟩
  have D2 := Lib.hid d2
  have B2 := Lib.hid (B1.out.trans (only_below g2 (by omega) B1.out.size))
  clear d2 g2
  go_wp2_with fail
  refine (donce 8 (by decide) (by decide) g _ A len cap _ D2.out).mono ?_
  rintro e w3 ⟨b, rfl, d3, g3⟩
  have D3 := Lib.hid d3
  have B3 := Lib.hid (B2.out.trans (only_below g3 (by omega) B2.out.size))
  clear d3 g3
  cases b with
  | true =>
    have HR := Lib.hid (row_three (-1) 1152921504606846975 1152921504606846976 w3 (by decide) (by decide) (by decide))
    have hlt := D3.out.lt
    go_wp2_with fail
    refine (dpick w3.heap.size 3 (by decide) (by decide) g _ A len cap _ (D3.out.alloc _) (by omega) (by simp) HR.out).mono ?_
    rintro e w4 ⟨j, rfl, _, _, d4, g4⟩
    have D4 := Lib.hid d4
    have B4 := Lib.hid ((B3.out.alloc B3.out.size _).trans (only_below g4 (by omega) (Nat.le_trans B3.out.size (by simp))))
    clear d4 g4 HR
    go_wp2_with fail
    refine (donce 2 (by decide) (by decide) g _ A len cap _ D4.out).mono ?_
    rintro e w5 ⟨s, rfl, d5, g5⟩
    have D5 := Lib.hid d5
    have B5 := Lib.hid (B4.out.trans (only_below g5 (by omega) B4.out.size))
    clear d5 g5
    go_wp2_with fail
    refine (donce 2 (by decide) (by decide) g _ A len cap _ D5.out).mono ?_
    rintro e w6 ⟨u, rfl, d6, g6⟩
    have B6 := Lib.hid (B5.out.trans (only_below g6 (by omega) B5.out.size))
    clear d6 g6
    go_wp2
    go_ret3
    exact ⟨j, s, u, rfl, B6.out⟩
  | false =>
    go_wp2_with fail
    refine (donce 2 (by decide) (by decide) g _ A len cap _ D3.out).mono ?_
    rintro e w5 ⟨s, rfl, d5, g5⟩
    have D5 := Lib.hid d5
    have B5 := Lib.hid (B3.out.trans (only_below g5 (by omega) B3.out.size))
    clear d5 g5
    go_wp2_with fail
    refine (donce 2 (by decide) (by decide) g _ A len cap _ D5.out).mono ?_
    rintro e w6 ⟨u, rfl, d6, g6⟩
    have B6 := Lib.hid (B5.out.trans (only_below g6 (by omega) B5.out.size))
    clear d6 g6
    go_wp2
    go_ret3
    exact ⟨i, s, u, rfl, B6.out⟩
end Go.Proofs.Ytmfcoejehnfamaa
