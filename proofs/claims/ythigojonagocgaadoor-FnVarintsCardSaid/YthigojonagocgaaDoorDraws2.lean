/-
  What the drawing functions of chapter 2 return, for whatever bytes: ints, strings, places, lists of ints.
-/
import Derived.Test.YthigojonagocgaaDoorDraw2
import Derived.Test.YthigojonagocgaaDoorSEncQs
namespace Go.Proofs.YthigojonagocgaaDoor
open Go.RowKit Go.Deep Go.Proofs.YthigojonagocgaaDoor.Num

/-- A string and a place come back; nothing that was there has changed. -/
def StrIntP (most : Nat) (w : World) (e : Ending) (w' : World) : Prop := ∃ (l : List UInt8) (a : Int), e = .returned (.tuple #[.string ⟨l.toArray⟩, .int .i64 a]) ∧ l.length ≤ most ∧ -1 ≤ a ∧ a ≤ 100 ∧ Below w.heap.size w w'
/-- A list of at most four ints comes back; nothing that was there has changed. -/
def DrawnP (w : World) (e : Ending) (w' : World) : Prop := ∃ (A : Option Addr) (cap : Nat) (zs : List Int), e = .returned (.slice A zs.length cap) ∧ zs.length ≤ 4 ∧ Ints w' w'.heap.size A zs ∧ (∀ z ∈ zs, -9223372036854775808 ≤ z ∧ z ≤ 9223372036854775807) ∧ Below w.heap.size w w'

/-- spec.l1Pick, over a row of strings of the caller's own. -/
theorem dpickS (K n m : Nat) (h0 : 0 < n) (hn : n ≤ 1000) (g B : Nat) (A : Option Addr) (len cap : Nat) (w : World) (d : Draw w g B A len cap) (hK : K ≠ g) (hKl : K < w.heap.size)
    (hc : ∀ j, j < n → ∃ l : List UInt8, w.cell? ⟨K, j, none⟩ = some (.string ⟨l.toArray⟩) ∧ l.length ≤ m) :
    Calls Tryd.prog 44 #[.pointer (some ⟨g, 0, none⟩), .slice (some ⟨K, 0, none⟩) n n] w (TextP m g B A len cap w) := by
  have D := Lib.hid d
  have HC := Lib.hid hc
  clear d hc
  go_enter Tryd.func44, Tryd.ntmps44
  go_wp2_with fail
  refine (dbelow (n : Int) (by omega) (by omega) g B A len cap _ D.out).mono ?_
  rintro e w1 ⟨x, rfl, x0, x1, d1, g1⟩
  obtain ⟨j, rfl⟩ := Int.eq_ofNat_of_zero_le x0
  have hj : j < n := by omega
  obtain ⟨l, hv, hl⟩ := HC.out j hj
  have hv1 : w1.cell? ⟨K, j, none⟩ = some (.string ⟨l.toArray⟩) := (World.cell?_of_block (w := w) (g1.block K hKl (fun e => hK (Option.some.inj e)))).trans hv
  have D1 := Lib.hid d1
  have G1 := Lib.hid g1
  clear d1 g1 hv x0 x1
  go_wp2
  go_ret
  exact ⟨l, rfl, hl, D1.out, G1.out⟩

/-- A row of strings written out. -/
theorem row_strings (w : World) (m : Nat) (ls : List (List UInt8)) (hm : ∀ l ∈ ls, l.length ≤ m) (T : TypeId) :
    ∀ j, j < ls.length → ∃ l : List UInt8, (w.alloc (.cells (ls.map fun l => Value.string ⟨l.toArray⟩).toArray T)).cell? ⟨w.heap.size, j, none⟩ = some (.string ⟨l.toArray⟩) ∧ l.length ≤ m := by
  intro j hj
  refine ⟨ls[j], ?_, hm _ (List.getElem_mem hj)⟩
  rw [World.cell?_alloc_at _ _ _ _ rfl]
  simp [hj]

/-- spec.DrawEncodeQuic -/
theorem draw_eq (A : Option Addr) (len cap : Nat) (w : World) (hlen : len ≤ maxLen) (hcode : Code w w.heap.size A len) :
    Calls Tryd.prog 11 #[.slice A len cap] w (IntP w) := by
  have HC := Lib.hid hcode
  clear hcode
  go_enter Tryd.func11, Tryd.ntmps11
  go_wp2_with fail
  refine (dnew A len cap _ hlen HC.out).mono ?_
  rintro e w1 ⟨g, rfl, hg, d1, b1⟩
  go_wp2_with fail
  refine (dnum2 g w.heap.size A len cap _ d1).mono ?_
  rintro e w2 ⟨x, rfl, x0, x1, d2, g2⟩
  go_wp2
  go_ret
  exact ⟨x, rfl, x0, x1, b1.trans (only_below g2 hg b1.size)⟩

set_option maxRecDepth 100000 in
set_option maxHeartbeats 800000 in
/-- spec.DrawDecodeQuic -/
theorem draw_dq (A : Option Addr) (len cap : Nat) (w : World) (hlen : len ≤ maxLen) (hcode : Code w w.heap.size A len) :
    Calls Tryd.prog 17 #[.slice A len cap] w (StrIntP 16 w) := by
  have HC := Lib.hid hcode
  clear hcode
  go_enter Tryd.func17, Tryd.ntmps17
  go_wp2_with fail
  refine (dnew A len cap _ hlen HC.out).mono ?_
  rintro e w1 ⟨g, rfl, hg, d1, b1⟩
  have D1 := Lib.hid d1
  have B1 := Lib.hid b1
  clear d1 b1
  go_wp2_with fail
  refine (donce 3 (by decide) (by decide) g w.heap.size A len cap _ D1.out).mono ?_
  rintro e w2 ⟨b, rfl, d2, g2⟩
  have D2 := Lib.hid d2
  have B2 := Lib.hid (B1.out.trans (only_below g2 hg B1.out.size))
  clear d2 g2
  cases b with
  | true =>
    go_wp2_with fail
    refine (dbytes 9 (by decide) g w.heap.size A len cap _ D2.out).mono ?_
    rintro e w3 ⟨l, rfl, hl, d3, g3⟩
    have D3 := Lib.hid d3
    have B3 := Lib.hid (B2.out.trans (only_below g3 hg B2.out.size))
    clear d3 g3
    go_wp2_with fail
    refine (dbelow 4 (by decide) (by decide) g w.heap.size A len cap _ D3.out).mono ?_
    rintro e w4 ⟨y, rfl, y0, y1, d4, g4⟩
    go_wp2
    go_ret2
    exact ⟨l, y - 1, rfl, by omega, by omega, by omega, B3.out.trans (only_below g4 hg B3.out.size)⟩
  | false =>
    go_wp2_with fail
    refine (dnum2 g w.heap.size A len cap _ D2.out).mono ?_
    rintro e w3 ⟨n, rfl, n0, n1, d3, g3⟩
    have D3 := Lib.hid d3
    have B3 := Lib.hid (B2.out.trans (only_below g3 hg B2.out.size))
    clear d3 g3
    go_wp2_with fail
    refine (sencq n w3 ⟨n0, n1⟩).mono ?_
    rintro e w4 ⟨rfl, b4⟩
    have D4 := Lib.hid (D3.out.below D3.out.lt b4)
    have B4 := Lib.hid (B3.out.trans (b4.mono B3.out.size))
    clear b4
    go_wp2_with fail
    refine (dnum2 g w.heap.size A len cap _ D4.out).mono ?_
    rintro e w5 ⟨m, rfl, m0, m1, d5, g5⟩
    have D5 := Lib.hid d5
    have B5 := Lib.hid (B4.out.trans (only_below g5 hg B4.out.size))
    clear d5 g5
    go_wp2_with fail
    refine (sencq m w5 ⟨m0, m1⟩).mono ?_
    rintro e w6 ⟨rfl, b6⟩
    have D6 := Lib.hid (D5.out.below D5.out.lt b6)
    have B6 := Lib.hid (B5.out.trans (b6.mono B5.out.size))
    clear b6
    have hn : (encQ n).length ≤ 8 := by rw [encQ_len]; rcases qsz_cases n with h | h | h | h | h <;> omega
    have hm : (encQ m).length ≤ 8 := by rw [encQ_len]; rcases qsz_cases m with h | h | h | h | h <;> omega
    generalize encQ n = ln at *
    generalize encQ m = lm at *
    have hadd : ∀ W : World, (Op.stringOp .add ⟨ln.toArray⟩ ⟨lm.toArray⟩).run Tryd.prog W = .ok (.string ⟨(ln ++ lm).toArray⟩) W := fun W => run_string_add_lists W _ _ (by omega) (by omega)
    go_wp2_with fail
    refine (dbelow 3 (by decide) (by decide) g w.heap.size A len cap _ D6.out).mono ?_
    rintro e w7 ⟨y, rfl, y0, y1, d7, g7⟩
    go_wp2
    go_ret2
    exact ⟨ln ++ lm, y, rfl, by rw [List.length_append]; omega, by omega, by omega, B6.out.trans (only_below g7 hg B6.out.size)⟩

set_option maxRecDepth 100000 in
set_option maxHeartbeats 800000 in
/-- spec.DrawIsShortest -/
theorem draw_is (A : Option Addr) (len cap : Nat) (w : World) (hlen : len ≤ maxLen) (hcode : Code w w.heap.size A len) :
    Calls Tryd.prog 22 #[.slice A len cap] w (StrIntP 16 w) := by
  have HC := Lib.hid hcode
  clear hcode
  go_enter Tryd.func22, Tryd.ntmps22
  go_wp2_with fail
  refine (dnew A len cap _ hlen HC.out).mono ?_
  rintro e w1 ⟨g, rfl, hg, d1, b1⟩
  have D1 := Lib.hid d1
  have B1 := Lib.hid b1
  clear d1 b1
  go_wp2_with fail
  refine (donce 3 (by decide) (by decide) g w.heap.size A len cap _ D1.out).mono ?_
  rintro e w2 ⟨b, rfl, d2, g2⟩
  have D2 := Lib.hid d2
  have B2 := Lib.hid (B1.out.trans (only_below g2 hg B1.out.size))
  clear d2 g2
  cases b with
  | true =>
    have hrow := row_strings w2 4 [[64, 5], [64, 64], [128, 0, 0, 5], [5], [], [64]] (by decide) 9
    have HR := Lib.hid hrow
    clear hrow
    go_wp2_with fail
    refine (dpickS w2.heap.size 6 4 (by decide) (by decide) g w.heap.size A len cap _ (D2.out.alloc _) (by have := D2.out.lt; omega) (by simp) HR.out).mono ?_
    rintro e w3 ⟨l, rfl, hl, d3, g3⟩
    go_wp2
    go_ret2
    exact ⟨l, 0, rfl, by omega, by omega, by omega, (B2.out.alloc B2.out.size _).trans (only_below g3 hg (Nat.le_trans B2.out.size (by simp)))⟩
  | false =>
    go_wp2_with fail
    refine (draw_dq A len cap w2 hlen (Code.later HC.out B2.out)).mono ?_
    rintro e w3 ⟨l, a, rfl, hl, a0, a1, b3⟩
    go_wp2
    go_ret2
    exact ⟨l, a, rfl, hl, a0, a1, B2.out.trans (b3.mono B2.out.size)⟩

theorem OwnI.only {w w' : World} {base g : Nat} {v : Value} {zs : List Int} (h : OwnI w base v zs) (hg : w.grownBy w' (some g)) (hb : g < base) : OwnI w' base v zs :=
  World.ownsRow.kept h hg (by
    cases hv : v.ownBlock with
    | none => exact .inl rfl
    | some k =>
      refine .inr (fun e => ?_)
      have := (World.ownsRow.lt h k hv).1
      have := Option.some.inj e
      omega)

set_option maxRecDepth 100000 in
set_option maxHeartbeats 1600000 in
/-- spec.DrawEncodeQuics -/
theorem draw_eqs (A : Option Addr) (len cap : Nat) (w : World) (hlen : len ≤ maxLen) (hcode : Code w w.heap.size A len) :
    Calls Tryd.prog 19 #[.slice A len cap] w (DrawnP w) := by
  have HC := Lib.hid hcode
  clear hcode
  go_enter Tryd.func19, Tryd.ntmps19
  go_wp2_with fail
  refine (dnew A len cap _ hlen HC.out).mono ?_
  rintro e w1 ⟨g, rfl, hg, d1, b1⟩
  have hlt := d1.lt
  have D1 := Lib.hid d1
  have B1 := Lib.hid b1
  clear d1 b1
  go_wp2_with fail
  refine (dbelow 5 (by decide) (by decide) g w.heap.size A len cap _ (D1.out.alloc _)).mono ?_
  rintro e w2 ⟨n, rfl, n0, n1, d2, g2⟩
  have D2 := Lib.hid d2
  have G2 := Lib.hid (only_trans (only_alloc (World.grownBy.refl w1 (some g)) _) g2)
  have O2 := Lib.hid (OwnI.only (OwnI.lit w1 w1.heap.size 0 #[] (Nat.le_refl _) (by decide) rfl) g2 hlt)
  clear d2 g2
  obtain ⟨m, rfl⟩ := Int.eq_ofNat_of_zero_le n0
  go_wp2_with fail
  go_loopw [4, 5] (fun v x wr => ∃ (k : Nat) (zs : List Int), x = .int .i64 k ∧ zs.length + k ≤ 4 ∧ OwnI wr w1.heap.size v zs ∧ (∀ z ∈ zs, -9223372036854775808 ≤ z ∧ z ≤ 9223372036854775807) ∧ Draw wr g w.heap.size A len cap ∧ w1.grownBy wr (some g)) (fun _ x _ => (intOf x).toNat)
  case atStart => exact ⟨m, [], rfl, by simp; omega, O2.out, fun z hz => by simp at hz, D2.out, G2.out⟩
  case round =>
    obtain ⟨k, zs, rfl, hk, hown, hz, hd, hgr⟩ := hrel
    have HO := Lib.hid hown
    have HZ := Lib.hid hz
    have HD := Lib.hid hd
    have HG := Lib.hid hgr
    clear hown hz hd hgr
    by_cases hk0 : 0 < k
    · obtain ⟨k, rfl⟩ : ∃ j, k = j + 1 := ⟨k - 1, by omega⟩
      go_wp2_with fail
      refine (dnum2 g w.heap.size A len cap _ HD.out).mono ?_
      rintro e w3 ⟨x, rfl, x0, x1, d3, g3⟩
      have D3 := Lib.hid d3
      have O3 := Lib.hid (HO.out.only g3 hlt)
      have G3 := Lib.hid (only_trans HG.out g3)
      clear d3 g3
      have hcell : (w3.alloc (.cells #[.int .i64 x] 3)).cell? ⟨w3.heap.size, 0, none⟩ = some (.int .i64 x) := by
        rw [World.cell?_alloc_at _ _ _ _ rfl]; rfl
      have HX := Lib.hid hcell
      have hs3 : w1.heap.size ≤ w3.heap.size := G3.out.size
      clear hcell
      go_wp2_with (at_builtin; refine wpList_append_int _ rfl _ _ rfl w1.heap.size _ zs rfl (O3.out.alloc _) w3.heap.size 1 x rfl HX.out ?c1 ?c2 ?_)
      case c1 => omega
      case c2 => simp; omega
      intro v' w4 ho4 hb4
      have hB : Below w1.heap.size w3 w4 := ((Below.refl _ _).alloc hs3 _).trans hb4
      have HO4 := Lib.hid ho4
      have HB4 := Lib.hid hB
      clear ho4 hb4 hB
      go_wp2
      go_roundw
      case rel => exact ⟨k, zs ++ [x], by go_num, by simp; omega, HO4.out, fun z hz => by
        rw [List.mem_append, List.mem_singleton] at hz
        rcases hz with hz | rfl
        · exact HZ.out z hz
        · exact ⟨x0, x1⟩, D3.out.below hlt HB4.out, only_then G3.out HB4.out⟩
      case measure => simp [intOf]
    · go_wp2
      go_ret
      obtain ⟨A', cap', rfl, _, hi⟩ := HO.out.ints
      exact ⟨A', cap', zs, rfl, by omega, hi, HZ.out, B1.out.trans (only_below HG.out hg B1.out.size)⟩

/-- spec.DrawDecodeQuics -/
theorem draw_dqs (A : Option Addr) (len cap : Nat) (w : World) (hlen : len ≤ maxLen) (hcode : Code w w.heap.size A len) :
    Calls Tryd.prog 23 #[.slice A len cap] w (StrP 32 w) := by
  have HC := Lib.hid hcode
  clear hcode
  go_enter Tryd.func23, Tryd.ntmps23
  go_wp2_with fail
  refine (dnew A len cap _ hlen HC.out).mono ?_
  rintro e w1 ⟨g, rfl, hg, d1, b1⟩
  have D1 := Lib.hid d1
  have B1 := Lib.hid b1
  clear d1 b1
  go_wp2_with fail
  refine (donce 3 (by decide) (by decide) g w.heap.size A len cap _ D1.out).mono ?_
  rintro e w2 ⟨b, rfl, d2, g2⟩
  have D2 := Lib.hid d2
  have B2 := Lib.hid (B1.out.trans (only_below g2 hg B1.out.size))
  clear d2 g2
  cases b with
  | true =>
    go_wp2_with fail
    refine (dbytes 12 (by decide) g w.heap.size A len cap _ D2.out).mono ?_
    rintro e w3 ⟨l, rfl, hl, d3, g3⟩
    go_wp2
    go_ret
    exact ⟨l, rfl, by omega, B2.out.trans (only_below g3 hg B2.out.size)⟩
  | false =>
    go_wp2_with fail
    refine (draw_eqs A len cap w2 hlen (Code.later HC.out B2.out)).mono ?_
    rintro e w3 ⟨A', cap', zs, rfl, hz4, hi, hzr, b3⟩
    have B3 := Lib.hid (B2.out.trans (b3.mono B2.out.size))
    have HI := Lib.hid hi
    have HZ := Lib.hid hzr
    clear b3 hi hzr
    go_wp2_with fail
    refine (sencqs zs A' cap' w3.heap.size w3 (Nat.le_refl _) HI.out (by omega) HZ.out).mono ?_
    rintro e w4 ⟨rfl, b4⟩
    have hl := encQs_len zs
    go_wp2
    go_ret
    exact ⟨encQs zs, rfl, by omega, B3.out.trans (b4.mono B3.out.size)⟩
end Go.Proofs.YthigojonagocgaaDoor
