/-
  What the drawing functions spec.l1Once, l2Number and l2Bytes return.
-/
import Derived.Test.YthigojonagocgaaDoorDrawNew
import Derived.Test.YthigojonagocgaaDoorSSize
namespace Go.Proofs.YthigojonagocgaaDoor
open Go.RowKit Go.Deep Go.Proofs.YthigojonagocgaaDoor.Num

/-- A bool comes back; nothing but the cursor has changed. -/
def BoolP (g B : Nat) (A : Option Addr) (len cap : Nat) (w : World) (e : Ending) (w' : World) : Prop :=
  ∃ b : Bool, e = .returned (.bool b) ∧ Draw w' g B A len cap ∧ w.grownBy w' (some g)

/-- spec.l1Once -/
theorem donce (n : Int) (h0 : 0 < n) (hn : n ≤ 4000000000) (g B : Nat) (A : Option Addr) (len cap : Nat) (w : World) (d : Draw w g B A len cap) :
    Calls Tryd.prog 39 #[.pointer (some ⟨g, 0, none⟩), .int .i64 n] w (BoolP g B A len cap w) := by
  have D := Lib.hid d
  clear d
  go_enter Tryd.func39, Tryd.ntmps39
  go_wp2_with fail
  refine (dbelow n h0 hn g B A len cap _ D.out).mono ?_
  rintro e w1 ⟨x, rfl, x0, x1, d1, g1⟩
  go_wp2
  go_ret
  exact ⟨_, rfl, d1, g1⟩

set_option maxRecDepth 100000 in
set_option maxHeartbeats 800000 in
/-- spec.l2Number -/
theorem dnum2 (g B : Nat) (A : Option Addr) (len cap : Nat) (w : World) (d : Draw w g B A len cap) :
    Calls Tryd.prog 33 #[.pointer (some ⟨g, 0, none⟩)] w (NumP (-9223372036854775808) 9223372036854775807 g B A len cap w) := by
  have D := Lib.hid d
  clear d
  go_enter Tryd.func33, Tryd.ntmps33
  go_wp2_with fail
  refine (dbelow 6 (by decide) (by decide) g B A len cap _ D.out).mono ?_
  rintro e w1 ⟨x, rfl, x0, x1, d1, g1⟩
  have D1 := Lib.hid d1
  have G1 := Lib.hid g1
  clear d1 g1
  by_cases e0 : x = 0
  · subst e0
    have hrow := row_cells w1 [-1, 0, 63, 64, 16383, 16384, 1073741823, 1073741824, 4611686018427387903, 4611686018427387904] (by decide)
    have HR := Lib.hid hrow
    clear hrow
    go_wp2_with fail
    refine (dpick w1.heap.size 10 (by decide) (by decide) g B A len cap _ (D1.out.alloc _) (by have := D1.out.lt; omega) (by simp) HR.out).mono ?_
    rintro e w2 ⟨v, rfl, v0, v1, d2, g2⟩
    go_wp2
    go_ret
    exact ⟨v, rfl, v0, v1, d2, only_trans (only_alloc G1.out _) g2⟩
  · have q0 : (x == 0) = false := by simpa using e0
    by_cases e1 : x = 1
    · subst e1
      clear q0
      go_wp2_with fail
      refine (dbelow 256 (by decide) (by decide) g B A len cap _ D1.out).mono ?_
      rintro e w2 ⟨y, rfl, y0, y1, d2, g2⟩
      have D2 := Lib.hid d2
      have G2 := Lib.hid g2
      clear d2 g2
      go_wp2_with fail
      refine (dbelow 256 (by decide) (by decide) g B A len cap _ D2.out).mono ?_
      rintro e w3 ⟨z, rfl, z0, z1, d3, g3⟩
      have D3 := Lib.hid d3
      have G3 := Lib.hid g3
      clear d3 g3
      go_wp2
      go_ret
      exact ⟨_, rfl, by unfold wrap64; omega, by unfold wrap64; omega, D3.out, only_trans (only_trans G1.out G2.out) G3.out⟩
    · have q1 : (x == 1) = false := by simpa using e1
      go_wp2_with fail
      refine (dbelow 100 (by decide) (by decide) g B A len cap _ D1.out).mono ?_
      rintro e w2 ⟨y, rfl, y0, y1, d2, g2⟩
      go_wp2
      go_ret
      exact ⟨_, rfl, by omega, by omega, d2, only_trans G1.out g2⟩

set_option maxRecDepth 100000 in
set_option maxHeartbeats 800000 in
/-- spec.l2Bytes -/
theorem dbytes (most : Nat) (hm : most ≤ 100000) (g B : Nat) (A : Option Addr) (len cap : Nat) (w : World) (d : Draw w g B A len cap) :
    Calls Tryd.prog 40 #[.pointer (some ⟨g, 0, none⟩), .int .i64 (most : Int)] w (TextP most g B A len cap w) := by
  have D := Lib.hid d
  clear d
  go_enter Tryd.func40, Tryd.ntmps40
  go_wp2_with fail
  refine (dbelow ((most : Int) + 1) (by omega) (by omega) g B A len cap _ D.out).mono ?_
  rintro e w1 ⟨n, rfl, n0, n1, d1, g1⟩
  have D1 := Lib.hid d1
  have G1 := Lib.hid g1
  clear d1 g1
  obtain ⟨m, rfl⟩ := Int.eq_ofNat_of_zero_le n0
  go_wp2
  go_loopw [5, 6] (fun v x wr => ∃ (k : Nat) (l : List UInt8), x = .int .i64 k ∧ l.length + k ≤ most ∧ v = .string ⟨l.toArray⟩ ∧ Draw wr g B A len cap ∧ w.grownBy wr (some g)) (fun _ x _ => (intOf x).toNat)
  case atStart => exact ⟨m, [], rfl, by simp; omega, rfl, D1.out, G1.out⟩
  case round =>
    obtain ⟨k, l, rfl, hk, rfl, hd, hg⟩ := hrel
    have HD := Lib.hid hd
    have HG := Lib.hid hg
    clear hd hg
    by_cases hz : 0 < k
    · obtain ⟨k, rfl⟩ : ∃ j, k = j + 1 := ⟨k - 1, by omega⟩
      go_wp2_with fail
      refine (dbelow 256 (by decide) (by decide) g B A len cap _ HD.out).mono ?_
      rintro e w3 ⟨x, rfl, x0, x1, d3, g3⟩
      have D3 := Lib.hid d3
      have G3 := Lib.hid (only_trans HG.out g3)
      clear d3 g3
      obtain ⟨y, rfl⟩ := Int.eq_ofNat_of_zero_le x0
      go_wp2_with fail
      refine (sbyte (y : Int) y (by omega) w3).mono ?_
      rintro e w4 ⟨rfl, hb⟩
      have D4 := Lib.hid (D3.out.below D3.out.lt hb)
      have G4 := Lib.hid (only_then G3.out (hb.mono G3.out.size))
      clear hb
      have hadd : ∀ W : World, (Op.stringOp .add ⟨l.toArray⟩ ⟨[UInt8.ofNat y].toArray⟩).run Tryd.prog W = .ok (.string ⟨(l ++ [UInt8.ofNat y]).toArray⟩) W := fun W => by
        rw [run_string_add_lists W _ _ (by omega) (by simp)]
      go_wp2
      go_roundw
      case rel => exact ⟨k, l ++ [UInt8.ofNat y], by go_num, by simp; omega, rfl, D4.out, G4.out⟩
      case measure => simp [intOf]
    · go_wp2
      go_ret
      exact ⟨l, rfl, by omega, HD.out, HG.out⟩
end Go.Proofs.YthigojonagocgaaDoor
