/-
  What the two forms of DecodeHex return: the bytes that the digits encode, and whether there are such bytes.
-/
import Derived.Test.YtfnbogdpabicnaaEncHex
import Derived.Laws.RangeAny
namespace Go.Proofs.Ytfnbogdpabicnaa
open Go.RowKit Go.Deep Go.Proofs.Ytfnbogdpabicnaa.Num

theorem u8_beq (a b : UInt8) : ((a.toNat : Int) == (b.toNat : Int)) = decide (a = b) := by
  rw [Bool.eq_iff_iff]
  simp only [beq_iff_eq, decide_eq_true_eq, Int.ofNat_inj]
  exact UInt8.toNat_inj

/-- spec.l1FromHex -/
theorem from_any (b : UInt8) (w : World) :
    Calls Try.prog 23 #[.int .u8 (b.toNat : Int)] w fun e w' => (∃ k : Nat, unD b = some k ∧ e = .returned (.int .i64 k) ∧ w = w') ∨ (unD b = none ∧ e = .returned (.int .i64 (-1)) ∧ w = w') := by
  go_enter Try.func23, Try.ntmps23
  go_wp2
  go_loop [3] (fun x => ∃ k : Nat, k ≤ 16 ∧ x = .int .i64 k ∧ ∀ j, j < k → hexD j ≠ b) (fun x => 16 - (intOf x).toNat)
  case atStart => exact ⟨0, by omega, rfl, fun j h => absurd h (by omega)⟩
  case round =>
    obtain ⟨k, hk, rfl, hno⟩ := hrel
    have HNO := Lib.hid hno
    clear hno
    by_cases hlt : k < 16
    · by_cases he : hexD k = b
      · have hq : (((hexD k).toNat : Int) == (b.toNat : Int)) = true := by rw [u8_beq]; simpa using he
        have HE := Lib.hid he
        clear he
        go_wp2_with (go_at_call 22; refine (digit_any k _ hlt).mono ?_; rintro e w' ⟨rfl, rfl⟩)
        go_ret
        exact .inl ⟨k, by rw [← HE.out, unD_hexD k hlt], rfl, rfl⟩
      · have hq : (((hexD k).toNat : Int) == (b.toNat : Int)) = false := by rw [u8_beq]; simpa using he
        have HE := Lib.hid he
        clear he
        go_wp2_with (go_at_call 22; refine (digit_any k _ hlt).mono ?_; rintro e w' ⟨rfl, rfl⟩)
        go_round
        case rel => exact ⟨k + 1, by omega, by go_num, fun j h => by
          by_cases hj : j = k
          · subst hj; exact HE.out
          · exact HNO.out j (by omega)⟩
        case measure => simp [intOf]; omega
    · go_wp2
      go_ret
      exact .inr ⟨unD_none b (fun j h => HNO.out j (by omega)), rfl, rfl⟩

theorem from_yes (b : UInt8) (w : World) (k : Nat) (h : unD b = some k) :
    Calls Try.prog 23 #[.int .u8 (b.toNat : Int)] w fun e w' => e = .returned (.int .i64 k) ∧ w = w' :=
  (from_any b w).mono fun e w' hh => by
    rcases hh with ⟨j, hj, he, hw⟩ | ⟨hn, _, _⟩
    · rw [h] at hj
      obtain rfl := Option.some.inj hj
      exact ⟨he, hw⟩
    · rw [h] at hn; cases hn
theorem from_no (b : UInt8) (w : World) (h : unD b = none) :
    Calls Try.prog 23 #[.int .u8 (b.toNat : Int)] w fun e w' => e = .returned (.int .i64 (-1)) ∧ w = w' :=
  (from_any b w).mono fun e w' hh => by
    rcases hh with ⟨j, hj, _, _⟩ | ⟨_, he, hw⟩
    · rw [h] at hj; cases hj
    · exact ⟨he, hw⟩

theorem cell_pair (W : World) (x y : Nat) (hx : x < 16) (hy : y < 16) : ∀ j (hj : j < [UInt8.ofNat (16 * x + y)].length), (W.alloc (.cells #[.int .u8 (16 * (x : Int) + (y : Int))] 5)).cell? ⟨W.heap.size, j, none⟩ = some (.int .u8 ([UInt8.ofNat (16 * x + y)][j].toNat : Int)) := by
  intro j hj
  obtain rfl : j = 0 := by rw [List.length_singleton] at hj; omega
  have e : (UInt8.ofNat (16 * x + y)).toNat = 16 * x + y := by rw [UInt8.toNat_ofNat']; omega
  rw [World.cell?_alloc_at _ _ _ _ rfl, List.getElem_singleton, e]
  rfl

set_option maxRecDepth 100000 in
set_option maxHeartbeats 800000 in
/-- spec.DecodeHex -/
theorem sdh (s : ByteArray) (w : World) (hs : s.size ≤ 1048576) :
    Calls Try.prog 19 #[.string s] w fun e w' => e = .returned (.tuple #[.string ⟨(hexR s.data.toList).toArray⟩, .bool (hexOk s.data.toList)]) ∧ Below w.heap.size w w' := by
  by_cases hodd : s.size % 2 = 1
  · have ho : (((s.size : Int) % 2) == 1) = true := by simp; omega
    rw [hexR_odd (by simpa using hodd), hexOk_odd (by simpa using hodd)]
    clear hodd
    go_enter Try.func19, Try.ntmps19
    go_wp2
    go_ret2
    exact ⟨rfl, (Below.refl _ _).alloc (Nat.le_refl _) _⟩
  · have ho : (((s.size : Int) % 2) == 1) = false := by simp; omega
    have hev : s.data.toList.length % 2 = 0 := by simp; omega
    have HEV := Lib.hid hev
    have HO := Lib.hid hodd
    clear hev hodd
    go_enter Try.func19, Try.ntmps19
    go_wp2
    clear ho
    go_loopw [4, 5] (fun v i wr => ∃ (k : Nat) (r : List UInt8), 2 * k ≤ s.size ∧ i = .int .i64 (2 * (k : Int)) ∧ r.length = k ∧ unL s.data.toList = (unL (s.data.toList.drop (2 * k))).map (r ++ ·) ∧ OwnB wr w.heap.size v r ∧ Below w.heap.size w wr) (fun _ i _ => s.size - (intOf i).toNat)
    case atStart => exact ⟨0, [], by omega, rfl, rfl, by simp, OwnB.lit w _ 0 _ (Nat.le_refl _) (by decide) rfl, (Below.refl _ _).alloc (Nat.le_refl _) _⟩
    case round =>
      obtain ⟨k, r, hk, rfl, hrl, hun, hown, hb⟩ := hrel
      have HRL := Lib.hid hrl
      have HUN := Lib.hid hun
      clear hrl hun
      by_cases hlt : 2 * k < s.size
      · have hlt1 : 2 * k + 1 < s.size := by have := HO.out; omega
        have hst := unL_step (by simpa using hlt1) HUN.out
        obtain ⟨h1, h2, h3⟩ := hst
        have H1 := Lib.hid h1
        have H2 := Lib.hid h2
        have H3 := Lib.hid h3
        clear h1 h2 h3
        have i1 : (2 * (k : Int)).toNat = 2 * k := by omega
        cases hx : unD (s[2 * k]'hlt) with
        | none =>
          have hN := Lib.hid (H2.out hx)
          have HX := Lib.hid hx
          clear H1 H2 H3 HUN hx
          cases hy : unD (s[2 * k + 1]'hlt1) with
          | none =>
            have HY := Lib.hid hy
            clear hy
            go_wp2_with fail
            refine (from_no _ _ HX.out).mono ?_
            rintro e w1 ⟨rfl, rfl⟩
            go_wp2_with fail
            refine (from_no _ _ HY.out).mono ?_
            rintro e w1 ⟨rfl, rfl⟩
            go_wp2
            go_ret2
            exact ⟨by rw [hexR_none hN.out, hexOk_none hN.out]; rfl, hb⟩
          | some y =>
            have HY := Lib.hid hy
            clear hy
            go_wp2_with fail
            refine (from_no _ _ HX.out).mono ?_
            rintro e w1 ⟨rfl, rfl⟩
            go_wp2_with fail
            refine (from_yes _ _ y HY.out).mono ?_
            rintro e w1 ⟨rfl, rfl⟩
            go_wp2
            go_ret2
            exact ⟨by rw [hexR_none hN.out, hexOk_none hN.out]; rfl, hb⟩
        | some x =>
          have HX := Lib.hid hx
          have hx16 := unD_lt _ _ hx
          clear hx
          cases hy : unD (s[2 * k + 1]'hlt1) with
          | none =>
            have hN := Lib.hid (H3.out hy)
            have HY := Lib.hid hy
            clear H1 H2 H3 HUN hy
            go_wp2_with fail
            refine (from_yes _ _ x HX.out).mono ?_
            rintro e w1 ⟨rfl, rfl⟩
            go_wp2_with fail
            refine (from_no _ _ HY.out).mono ?_
            rintro e w1 ⟨rfl, rfl⟩
            go_wp2
            go_ret2
            exact ⟨by rw [hexR_none hN.out, hexOk_none hN.out]; rfl, hb⟩
          | some y =>
            have HY := Lib.hid hy
            have hy16 := unD_lt _ _ hy
            have HU := Lib.hid (H1.out x y HX.out hy)
            clear H1 H2 H3 HUN hy
            go_wp2_with fail
            refine (from_yes _ _ x HX.out).mono ?_
            rintro e w1 ⟨rfl, rfl⟩
            go_wp2_with fail
            refine (from_yes _ _ y HY.out).mono ?_
            rintro e w1 ⟨rfl, rfl⟩
            go_wp2_with (at_builtin; refine wpList_append_bytes _ rfl (.tmp 34) (.tmp 40) rfl w.heap.size _ r rfl (hown.alloc _) wr.heap.size 1 1 [UInt8.ofNat (16 * x + y)] rfl rfl (cell_pair wr x y hx16 hy16) (by have := HRL.out; omega) (by have := hb.size; simp; omega) ?_; intro v' w' hown' hbel)
            have hB : Below w.heap.size w w' := (hb.alloc hb.size _).trans hbel
            go_roundw
            case rel => exact ⟨k + 1, _, by omega, by go_num, by simp [HRL.out], HU.out, hown', hB⟩
            case measure => simp [intOf]; omega
      · have HS := Lib.hid (unL_end (by simp; omega) HUN.out)
        have HC := conv_own wr _ _ _ hown
        go_wp2
        go_ret2
        exact ⟨by rw [hexR_some HEV.out HS.out, hexOk_some HEV.out HS.out]; rfl, hb⟩
end Go.Proofs.Ytfnbogdpabicnaa
