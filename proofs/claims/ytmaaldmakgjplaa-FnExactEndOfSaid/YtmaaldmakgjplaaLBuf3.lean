/-
  The laws that only read a buffer, walked.
-/
import Derived.Test.YtmaaldmakgjplaaLBuf
import Derived.Test.YtmaaldmakgjplaaSBuf2
namespace Go.Proofs.Ytmaaldmakgjplaa
open Go.RowKit Go.Deep Go.Proofs.Ytmaaldmakgjplaa.Num

set_option maxRecDepth 100000 in
set_option maxHeartbeats 1000000 in
/-- The law on IsBuffer, of an impl that answers so. -/
theorem law_IsBuffer (HI : ∀ (b : Bf) (A : Option Addr) (cap B : Nat) (w : World), B ≤ w.heap.size → Chs w B A b.chs → b.chs.length ≤ 1048576 → inB b.chs → (-9223372036854775808 ≤ b.next ∧ b.next ≤ 9223372036854775807) → Calls Try.prog 18 #[bfV b.next (.slice A b.chs.length cap)] w fun e w' => e = .returned (.bool (decide (okB b))) ∧ Below w.heap.size w w')
    (b : Bf) (A : Option Addr) (cap : Nat) (w : World) (hr : Chs w w.heap.size A b.chs) (hn : b.chs.length ≤ maxLen) (hi : inB b.chs) (hnx : -9223372036854775808 ≤ b.next ∧ b.next ≤ 9223372036854775807) :
    Calls Try.prog 5 #[bfV b.next (.slice A b.chs.length cap)] w fun e w' => e = .returned (.bool true) ∧ Below w.heap.size w w' := by
  have HW := Lib.hid (InB.start w b.next A cap b.chs 47 hr)
  have HZ := Lib.hid (lszb 1048576 (by decide) (by decide) b A cap w.heap.size _ (Nat.le_of_lt HW.out.2.2.1) HW.out.2.1 (by unfold maxLen at hn; omega) (fun c hc => by have := (hi c hc).1; unfold maxLen at this; omega))
  have hlow := (szB_low 1048576 b (by decide)).1
  by_cases hneg : szB 1048576 b < 0
  · generalize szB 1048576 b = m at *
    have hd : decide (m < 0) = true := decide_eq_true hneg
    clear hneg hlow hr hi
    go_enter Try.func5, Try.ntmps5
    go_wp2_with fail
    refine HZ.out.mono ?_
    rintro e w1 ⟨rfl, hb1⟩
    have H1 := Lib.hid (HW.out.next hb1)
    clear hb1
    go_wp2
    go_ret
    exact ⟨rfl, H1.out.2.2.2⟩
  · have hlen := (szB_ok (N := 1048576) (b := b) (by decide) (by omega)).1
    have HS : Hid (∀ (g : Nat) (W : World), Chs W W.heap.size (some ⟨g, 0, none⟩) b.chs → Calls Try.prog 19 #[bfV b.next (.slice (some ⟨g, 0, none⟩) b.chs.length b.chs.length)] W fun e w' => e = .returned (.bool (decide (okB b))) ∧ Below W.heap.size W w') := Lib.hid fun g W h => sisb b _ _ W.heap.size W (Nat.le_refl _) h (by omega) hi hnx
    have HM : Hid (∀ (g : Nat) (W : World), Chs W W.heap.size (some ⟨g, 0, none⟩) b.chs → Calls Try.prog 18 #[bfV b.next (.slice (some ⟨g, 0, none⟩) b.chs.length b.chs.length)] W fun e w' => e = .returned (.bool (decide (okB b))) ∧ Below W.heap.size W w') := Lib.hid fun g W h => HI b _ _ W.heap.size W (Nat.le_refl _) h hlen hi hnx
    generalize szB 1048576 b = m at *
    have hd : decide (m < 0) = false := decide_eq_false hneg
    obtain ⟨x, hx⟩ : ∃ x, decide (okB b) = x := ⟨_, rfl⟩
    rw [hx] at HS HM
    have hxx := bne_bool x
    obtain ⟨nx, l⟩ := b
    dsimp only at *
    clear hneg hlow hr hi hx HI hnx
    go_enter Try.func5, Try.ntmps5
    go_wp2_with fail
    refine HZ.out.mono ?_
    rintro e w1 ⟨rfl, hb1⟩
    have H1 := Lib.hid (HW.out.next hb1)
    clear hb1 HW HZ
    obtain ⟨a0, a1⟩ := H1.out.1
    go_wp2_with fail
    refine (H1.out.to hlen).mono ?_
    rintro e w2 ⟨rfl, ho2, hb2⟩
    have H2 := Lib.hid (H1.out.next hb2)
    have HO2 := Lib.hid ho2.chs
    clear ho2 hb2 a0 a1
    go_wp2_with fail
    refine (HS.out _ w2 HO2.out).mono ?_
    rintro e w3 ⟨rfl, hb3⟩
    have H3 := Lib.hid (H2.out.next hb3)
    clear hb3 HO2
    obtain ⟨a0, a1⟩ := H3.out.1
    go_wp2_with fail
    refine (H3.out.to hlen).mono ?_
    rintro e w4 ⟨rfl, ho4, hb4⟩
    have H4 := Lib.hid (H3.out.next hb4)
    have HO4 := Lib.hid ho4.chs
    clear ho4 hb4 a0 a1
    generalize w3.heap.size + 1 + 1 + 1 = g4 at *
    have HC5 := Lib.hid (CellB.new w4 nx (.slice (some ⟨g4, 0, none⟩) l.length l.length) 26)
    have H5 := Lib.hid (H4.out.alloc (.cells #[.int .i64 nx, .slice (some ⟨g4, 0, none⟩) l.length l.length] 26))
    have HO5 := Lib.hid (HO4.out.below (Nat.le_refl _) ((Below.refl _ _).alloc (Nat.le_refl _) (.cells #[.int .i64 nx, .slice (some ⟨g4, 0, none⟩) l.length l.length] 26)))
    have hsz5 : (w4.alloc (.cells #[.int .i64 nx, .slice (some ⟨g4, 0, none⟩) l.length l.length] 26)).heap.size = w4.heap.size + 1 := by simp
    have HSZ5 := Lib.hid hsz5
    clear hsz5 H4 HO4
    go_upto_region 7 with fail
    generalize w4.heap.size = g5 at *
    generalize w4.alloc (.cells #[.int .i64 nx, .slice (some ⟨g4, 0, none⟩) l.length l.length] 26) = w5 at *
    obtain ⟨q0, q1⟩ := HC5.out
    go_wp2_with fail
    refine (HM.out _ w5 (HO5.out.up (by have := HSZ5.out; omega))).mono ?_
    rintro e w6 ⟨rfl, hb6⟩
    have H6 := Lib.hid (H5.out.next hb6)
    have HC6 := Lib.hid (HC5.out.below hb6 (by have := HSZ5.out; omega))
    have HO6 := Lib.hid (HO5.out.below (by have := HSZ5.out; omega) hb6)
    have hg5 : g5 < w6.heap.size := by have := HSZ5.out; have := hb6.size; omega
    clear hb6 q0 q1 HC5 HO5 H5
    obtain ⟨a0, a1⟩ := H6.out.1
    obtain ⟨q0, q1⟩ := HC6.out
    have hg1 := H6.out.2.2.1
    have hS : ∀ W, Below w6.heap.size w6 W → W.cell? ⟨w.heap.size, 0, none⟩ = some (.int .i64 nx) ∧ W.cell? ⟨w.heap.size, 1, none⟩ = some (.slice A l.length cap) ∧ W.cell? ⟨g5, 0, none⟩ = some (.int .i64 nx) ∧ W.cell? ⟨g5, 1, none⟩ = some (.slice (some ⟨g4, 0, none⟩) l.length l.length) := fun W h =>
      ⟨(h.cell (p := ⟨w.heap.size, 0, none⟩) hg1).trans a0, (h.cell (p := ⟨w.heap.size, 1, none⟩) hg1).trans a1, (h.cell (p := ⟨g5, 0, none⟩) hg5).trans q0, (h.cell (p := ⟨g5, 1, none⟩) hg5).trans q1⟩
    have HT := Lib.hid (H6.out.drew.to hlen)
    have HSS := Lib.hid hS
    go_upto_region 10 with fail
    go_region_held3 (fun W => W.cell? ⟨w.heap.size, 0, none⟩ = some (.int .i64 nx) ∧ W.cell? ⟨w.heap.size, 1, none⟩ = some (.slice A l.length cap) ∧ W.cell? ⟨g5, 0, none⟩ = some (.int .i64 nx) ∧ W.cell? ⟨g5, 1, none⟩ = some (.slice (some ⟨g4, 0, none⟩) l.length l.length)) (first | exact hS _ (Below.refl _ _).drew | exact HSA.out | exact HSB.out) (first | (go_at_call 38; refine HT.out.mono ?_; rintro e w7 ⟨rfl, ho7, hb7⟩; have HB7 := Lib.hid ((Below.refl w6.heap.size w6).drew.trans hb7); have HSA := Lib.hid (HSS.out w7 HB7.out); have HR7 := Lib.hid ho7.chs; have HP7 := Lib.hid ((HO6.out.below (Nat.le_of_lt hg5) HB7.out).up (Nat.le_trans (Nat.le_of_lt hg5) HB7.out.size)); have H7 := Lib.hid (H6.out.drew.next hb7); clear ho7 hb7) | (go_at_call 39; refine (eqbuf nx l _ _ _ _ w7.heap.size w7 (Nat.le_refl _) HP7.out HR7.out (by omega)).mono ?_; rintro e w8 ⟨rfl, hb8⟩; have HSB := Lib.hid (HSS.out w8 (HB7.out.trans (hb8.mono HB7.out.size))); have H8 := Lib.hid (H7.out.next hb8); clear hb8))
    go_wp2
    go_ret
    exact ⟨rfl, H8.out.2.2.2⟩

set_option maxRecDepth 100000 in
set_option maxHeartbeats 1000000 in
/-- The law on ReadyBytes, of an impl that answers so. -/
theorem law_ReadyBytes (HI : ∀ (b : Bf) (A : Option Addr) (cap B : Nat) (w : World), B ≤ w.heap.size → Chs w B A b.chs → b.chs.length ≤ 1048576 → inB b.chs → (-9223372036854775808 ≤ b.next ∧ b.next ≤ 9223372036854775807) → Calls Try.prog 30 #[bfV b.next (.slice A b.chs.length cap)] w fun e w' => e = .returned (.int .i64 ((rdyB b : Int))) ∧ Below w.heap.size w w')
    (b : Bf) (A : Option Addr) (cap : Nat) (w : World) (hr : Chs w w.heap.size A b.chs) (hn : b.chs.length ≤ maxLen) (hi : inB b.chs) (hnx : -9223372036854775808 ≤ b.next ∧ b.next ≤ 9223372036854775807) :
    Calls Try.prog 7 #[bfV b.next (.slice A b.chs.length cap)] w fun e w' => e = .returned (.bool true) ∧ Below w.heap.size w w' := by
  have HW := Lib.hid (InB.start w b.next A cap b.chs 47 hr)
  have HZ := Lib.hid (lszb 1048576 (by decide) (by decide) b A cap w.heap.size _ (Nat.le_of_lt HW.out.2.2.1) HW.out.2.1 (by unfold maxLen at hn; omega) (fun c hc => by have := (hi c hc).1; unfold maxLen at this; omega))
  have hlow := (szB_low 1048576 b (by decide)).1
  by_cases hneg : szB 1048576 b < 0
  · generalize szB 1048576 b = m at *
    have hd : decide (m < 0) = true := decide_eq_true hneg
    clear hneg hlow hr hi
    go_enter Try.func7, Try.ntmps7
    go_wp2_with fail
    refine HZ.out.mono ?_
    rintro e w1 ⟨rfl, hb1⟩
    have H1 := Lib.hid (HW.out.next hb1)
    clear hb1
    go_wp2
    go_ret
    exact ⟨rfl, H1.out.2.2.2⟩
  · have hlen := (szB_ok (N := 1048576) (b := b) (by decide) (by omega)).1
    have HS : Hid (∀ (g : Nat) (W : World), Chs W W.heap.size (some ⟨g, 0, none⟩) b.chs → Calls Try.prog 31 #[bfV b.next (.slice (some ⟨g, 0, none⟩) b.chs.length b.chs.length)] W fun e w' => e = .returned (.int .i64 ((rdyB b : Int))) ∧ Below W.heap.size W w') := Lib.hid fun g W h => sready b _ _ W.heap.size W (Nat.le_refl _) h (by omega) hi hnx
    have HM : Hid (∀ (g : Nat) (W : World), Chs W W.heap.size (some ⟨g, 0, none⟩) b.chs → Calls Try.prog 30 #[bfV b.next (.slice (some ⟨g, 0, none⟩) b.chs.length b.chs.length)] W fun e w' => e = .returned (.int .i64 ((rdyB b : Int))) ∧ Below W.heap.size W w') := Lib.hid fun g W h => HI b _ _ W.heap.size W (Nat.le_refl _) h hlen hi hnx
    generalize szB 1048576 b = m at *
    have hd : decide (m < 0) = false := decide_eq_false hneg
    obtain ⟨x, hx⟩ : ∃ x, (rdyB b : Int) = x := ⟨_, rfl⟩
    rw [hx] at HS HM
    have hxx := bne_int x
    obtain ⟨nx, l⟩ := b
    dsimp only at *
    clear hneg hlow hr hi hx HI hnx
    go_enter Try.func7, Try.ntmps7
    go_wp2_with fail
    refine HZ.out.mono ?_
    rintro e w1 ⟨rfl, hb1⟩
    have H1 := Lib.hid (HW.out.next hb1)
    clear hb1 HW HZ
    obtain ⟨a0, a1⟩ := H1.out.1
    go_wp2_with fail
    refine (H1.out.to hlen).mono ?_
    rintro e w2 ⟨rfl, ho2, hb2⟩
    have H2 := Lib.hid (H1.out.next hb2)
    have HO2 := Lib.hid ho2.chs
    clear ho2 hb2 a0 a1
    go_wp2_with fail
    refine (HS.out _ w2 HO2.out).mono ?_
    rintro e w3 ⟨rfl, hb3⟩
    have H3 := Lib.hid (H2.out.next hb3)
    clear hb3 HO2
    obtain ⟨a0, a1⟩ := H3.out.1
    go_wp2_with fail
    refine (H3.out.to hlen).mono ?_
    rintro e w4 ⟨rfl, ho4, hb4⟩
    have H4 := Lib.hid (H3.out.next hb4)
    have HO4 := Lib.hid ho4.chs
    clear ho4 hb4 a0 a1
    generalize w3.heap.size + 1 + 1 + 1 = g4 at *
    have HC5 := Lib.hid (CellB.new w4 nx (.slice (some ⟨g4, 0, none⟩) l.length l.length) 26)
    have H5 := Lib.hid (H4.out.alloc (.cells #[.int .i64 nx, .slice (some ⟨g4, 0, none⟩) l.length l.length] 26))
    have HO5 := Lib.hid (HO4.out.below (Nat.le_refl _) ((Below.refl _ _).alloc (Nat.le_refl _) (.cells #[.int .i64 nx, .slice (some ⟨g4, 0, none⟩) l.length l.length] 26)))
    have hsz5 : (w4.alloc (.cells #[.int .i64 nx, .slice (some ⟨g4, 0, none⟩) l.length l.length] 26)).heap.size = w4.heap.size + 1 := by simp
    have HSZ5 := Lib.hid hsz5
    clear hsz5 H4 HO4
    go_upto_region 7 with fail
    generalize w4.heap.size = g5 at *
    generalize w4.alloc (.cells #[.int .i64 nx, .slice (some ⟨g4, 0, none⟩) l.length l.length] 26) = w5 at *
    obtain ⟨q0, q1⟩ := HC5.out
    go_wp2_with fail
    refine (HM.out _ w5 (HO5.out.up (by have := HSZ5.out; omega))).mono ?_
    rintro e w6 ⟨rfl, hb6⟩
    have H6 := Lib.hid (H5.out.next hb6)
    have HC6 := Lib.hid (HC5.out.below hb6 (by have := HSZ5.out; omega))
    have HO6 := Lib.hid (HO5.out.below (by have := HSZ5.out; omega) hb6)
    have hg5 : g5 < w6.heap.size := by have := HSZ5.out; have := hb6.size; omega
    clear hb6 q0 q1 HC5 HO5 H5
    obtain ⟨a0, a1⟩ := H6.out.1
    obtain ⟨q0, q1⟩ := HC6.out
    have hg1 := H6.out.2.2.1
    have hS : ∀ W, Below w6.heap.size w6 W → W.cell? ⟨w.heap.size, 0, none⟩ = some (.int .i64 nx) ∧ W.cell? ⟨w.heap.size, 1, none⟩ = some (.slice A l.length cap) ∧ W.cell? ⟨g5, 0, none⟩ = some (.int .i64 nx) ∧ W.cell? ⟨g5, 1, none⟩ = some (.slice (some ⟨g4, 0, none⟩) l.length l.length) := fun W h =>
      ⟨(h.cell (p := ⟨w.heap.size, 0, none⟩) hg1).trans a0, (h.cell (p := ⟨w.heap.size, 1, none⟩) hg1).trans a1, (h.cell (p := ⟨g5, 0, none⟩) hg5).trans q0, (h.cell (p := ⟨g5, 1, none⟩) hg5).trans q1⟩
    have HT := Lib.hid (H6.out.drew.to hlen)
    have HSS := Lib.hid hS
    go_upto_region 10 with fail
    go_region_held3 (fun W => W.cell? ⟨w.heap.size, 0, none⟩ = some (.int .i64 nx) ∧ W.cell? ⟨w.heap.size, 1, none⟩ = some (.slice A l.length cap) ∧ W.cell? ⟨g5, 0, none⟩ = some (.int .i64 nx) ∧ W.cell? ⟨g5, 1, none⟩ = some (.slice (some ⟨g4, 0, none⟩) l.length l.length)) (first | exact hS _ (Below.refl _ _).drew | exact HSA.out | exact HSB.out) (first | (go_at_call 38; refine HT.out.mono ?_; rintro e w7 ⟨rfl, ho7, hb7⟩; have HB7 := Lib.hid ((Below.refl w6.heap.size w6).drew.trans hb7); have HSA := Lib.hid (HSS.out w7 HB7.out); have HR7 := Lib.hid ho7.chs; have HP7 := Lib.hid ((HO6.out.below (Nat.le_of_lt hg5) HB7.out).up (Nat.le_trans (Nat.le_of_lt hg5) HB7.out.size)); have H7 := Lib.hid (H6.out.drew.next hb7); clear ho7 hb7) | (go_at_call 39; refine (eqbuf nx l _ _ _ _ w7.heap.size w7 (Nat.le_refl _) HP7.out HR7.out (by omega)).mono ?_; rintro e w8 ⟨rfl, hb8⟩; have HSB := Lib.hid (HSS.out w8 (HB7.out.trans (hb8.mono HB7.out.size))); have H8 := Lib.hid (H7.out.next hb8); clear hb8))
    go_wp2
    go_ret
    exact ⟨rfl, H8.out.2.2.2⟩

set_option maxRecDepth 100000 in
set_option maxHeartbeats 1000000 in
/-- The law on EndOf, of an impl that answers so. -/
theorem law_EndOf (HI : ∀ (b : Bf) (A : Option Addr) (cap B : Nat) (w : World), B ≤ w.heap.size → Chs w B A b.chs → b.chs.length ≤ 1048576 → inB b.chs → (-9223372036854775808 ≤ b.next ∧ b.next ≤ 9223372036854775807) → Calls Try.prog 24 #[bfV b.next (.slice A b.chs.length cap)] w fun e w' => e = .returned (.int .i64 (endB b)) ∧ Below w.heap.size w w')
    (b : Bf) (A : Option Addr) (cap : Nat) (w : World) (hr : Chs w w.heap.size A b.chs) (hn : b.chs.length ≤ maxLen) (hi : inB b.chs) (hnx : -9223372036854775808 ≤ b.next ∧ b.next ≤ 9223372036854775807) :
    Calls Try.prog 11 #[bfV b.next (.slice A b.chs.length cap)] w fun e w' => e = .returned (.bool true) ∧ Below w.heap.size w w' := by
  have HW := Lib.hid (InB.start w b.next A cap b.chs 47 hr)
  have HZ := Lib.hid (lszb 1048576 (by decide) (by decide) b A cap w.heap.size _ (Nat.le_of_lt HW.out.2.2.1) HW.out.2.1 (by unfold maxLen at hn; omega) (fun c hc => by have := (hi c hc).1; unfold maxLen at this; omega))
  have hlow := (szB_low 1048576 b (by decide)).1
  by_cases hneg : szB 1048576 b < 0
  · generalize szB 1048576 b = m at *
    have hd : decide (m < 0) = true := decide_eq_true hneg
    clear hneg hlow hr hi
    go_enter Try.func11, Try.ntmps11
    go_wp2_with fail
    refine HZ.out.mono ?_
    rintro e w1 ⟨rfl, hb1⟩
    have H1 := Lib.hid (HW.out.next hb1)
    clear hb1
    go_wp2
    go_ret
    exact ⟨rfl, H1.out.2.2.2⟩
  · have hlen := (szB_ok (N := 1048576) (b := b) (by decide) (by omega)).1
    have HS : Hid (∀ (g : Nat) (W : World), Chs W W.heap.size (some ⟨g, 0, none⟩) b.chs → Calls Try.prog 29 #[bfV b.next (.slice (some ⟨g, 0, none⟩) b.chs.length b.chs.length)] W fun e w' => e = .returned (.int .i64 (endB b)) ∧ Below W.heap.size W w') := Lib.hid fun g W h => sendof b _ _ W.heap.size W (Nat.le_refl _) h (by omega) hi hnx
    have HM : Hid (∀ (g : Nat) (W : World), Chs W W.heap.size (some ⟨g, 0, none⟩) b.chs → Calls Try.prog 24 #[bfV b.next (.slice (some ⟨g, 0, none⟩) b.chs.length b.chs.length)] W fun e w' => e = .returned (.int .i64 (endB b)) ∧ Below W.heap.size W w') := Lib.hid fun g W h => HI b _ _ W.heap.size W (Nat.le_refl _) h hlen hi hnx
    generalize szB 1048576 b = m at *
    have hd : decide (m < 0) = false := decide_eq_false hneg
    obtain ⟨x, hx⟩ : ∃ x, endB b = x := ⟨_, rfl⟩
    rw [hx] at HS HM
    have hxx := bne_int x
    obtain ⟨nx, l⟩ := b
    dsimp only at *
    clear hneg hlow hr hi hx HI hnx
    go_enter Try.func11, Try.ntmps11
    go_wp2_with fail
    refine HZ.out.mono ?_
    rintro e w1 ⟨rfl, hb1⟩
    have H1 := Lib.hid (HW.out.next hb1)
    clear hb1 HW HZ
    obtain ⟨a0, a1⟩ := H1.out.1
    go_wp2_with fail
    refine (H1.out.to hlen).mono ?_
    rintro e w2 ⟨rfl, ho2, hb2⟩
    have H2 := Lib.hid (H1.out.next hb2)
    have HO2 := Lib.hid ho2.chs
    clear ho2 hb2 a0 a1
    go_wp2_with fail
    refine (HS.out _ w2 HO2.out).mono ?_
    rintro e w3 ⟨rfl, hb3⟩
    have H3 := Lib.hid (H2.out.next hb3)
    clear hb3 HO2
    obtain ⟨a0, a1⟩ := H3.out.1
    go_wp2_with fail
    refine (H3.out.to hlen).mono ?_
    rintro e w4 ⟨rfl, ho4, hb4⟩
    have H4 := Lib.hid (H3.out.next hb4)
    have HO4 := Lib.hid ho4.chs
    clear ho4 hb4 a0 a1
    generalize w3.heap.size + 1 + 1 + 1 = g4 at *
    have HC5 := Lib.hid (CellB.new w4 nx (.slice (some ⟨g4, 0, none⟩) l.length l.length) 26)
    have H5 := Lib.hid (H4.out.alloc (.cells #[.int .i64 nx, .slice (some ⟨g4, 0, none⟩) l.length l.length] 26))
    have HO5 := Lib.hid (HO4.out.below (Nat.le_refl _) ((Below.refl _ _).alloc (Nat.le_refl _) (.cells #[.int .i64 nx, .slice (some ⟨g4, 0, none⟩) l.length l.length] 26)))
    have hsz5 : (w4.alloc (.cells #[.int .i64 nx, .slice (some ⟨g4, 0, none⟩) l.length l.length] 26)).heap.size = w4.heap.size + 1 := by simp
    have HSZ5 := Lib.hid hsz5
    clear hsz5 H4 HO4
    go_upto_region 7 with fail
    generalize w4.heap.size = g5 at *
    generalize w4.alloc (.cells #[.int .i64 nx, .slice (some ⟨g4, 0, none⟩) l.length l.length] 26) = w5 at *
    obtain ⟨q0, q1⟩ := HC5.out
    go_wp2_with fail
    refine (HM.out _ w5 (HO5.out.up (by have := HSZ5.out; omega))).mono ?_
    rintro e w6 ⟨rfl, hb6⟩
    have H6 := Lib.hid (H5.out.next hb6)
    have HC6 := Lib.hid (HC5.out.below hb6 (by have := HSZ5.out; omega))
    have HO6 := Lib.hid (HO5.out.below (by have := HSZ5.out; omega) hb6)
    have hg5 : g5 < w6.heap.size := by have := HSZ5.out; have := hb6.size; omega
    clear hb6 q0 q1 HC5 HO5 H5
    obtain ⟨a0, a1⟩ := H6.out.1
    obtain ⟨q0, q1⟩ := HC6.out
    have hg1 := H6.out.2.2.1
    have hS : ∀ W, Below w6.heap.size w6 W → W.cell? ⟨w.heap.size, 0, none⟩ = some (.int .i64 nx) ∧ W.cell? ⟨w.heap.size, 1, none⟩ = some (.slice A l.length cap) ∧ W.cell? ⟨g5, 0, none⟩ = some (.int .i64 nx) ∧ W.cell? ⟨g5, 1, none⟩ = some (.slice (some ⟨g4, 0, none⟩) l.length l.length) := fun W h =>
      ⟨(h.cell (p := ⟨w.heap.size, 0, none⟩) hg1).trans a0, (h.cell (p := ⟨w.heap.size, 1, none⟩) hg1).trans a1, (h.cell (p := ⟨g5, 0, none⟩) hg5).trans q0, (h.cell (p := ⟨g5, 1, none⟩) hg5).trans q1⟩
    have HT := Lib.hid (H6.out.drew.to hlen)
    have HSS := Lib.hid hS
    go_upto_region 10 with fail
    go_region_held3 (fun W => W.cell? ⟨w.heap.size, 0, none⟩ = some (.int .i64 nx) ∧ W.cell? ⟨w.heap.size, 1, none⟩ = some (.slice A l.length cap) ∧ W.cell? ⟨g5, 0, none⟩ = some (.int .i64 nx) ∧ W.cell? ⟨g5, 1, none⟩ = some (.slice (some ⟨g4, 0, none⟩) l.length l.length)) (first | exact hS _ (Below.refl _ _).drew | exact HSA.out | exact HSB.out) (first | (go_at_call 38; refine HT.out.mono ?_; rintro e w7 ⟨rfl, ho7, hb7⟩; have HB7 := Lib.hid ((Below.refl w6.heap.size w6).drew.trans hb7); have HSA := Lib.hid (HSS.out w7 HB7.out); have HR7 := Lib.hid ho7.chs; have HP7 := Lib.hid ((HO6.out.below (Nat.le_of_lt hg5) HB7.out).up (Nat.le_trans (Nat.le_of_lt hg5) HB7.out.size)); have H7 := Lib.hid (H6.out.drew.next hb7); clear ho7 hb7) | (go_at_call 39; refine (eqbuf nx l _ _ _ _ w7.heap.size w7 (Nat.le_refl _) HP7.out HR7.out (by omega)).mono ?_; rintro e w8 ⟨rfl, hb8⟩; have HSB := Lib.hid (HSS.out w8 (HB7.out.trans (hb8.mono HB7.out.size))); have H8 := Lib.hid (H7.out.next hb8); clear hb8))
    go_wp2
    go_ret
    exact ⟨rfl, H8.out.2.2.2⟩

set_option maxRecDepth 100000 in
set_option maxHeartbeats 1000000 in
/-- The law on ByteAt, of an impl that answers so. -/
theorem law_ByteAt (HI : ∀ (b : Bf) (o : Int) (A : Option Addr) (cap B : Nat) (w : World), B ≤ w.heap.size → Chs w B A b.chs → b.chs.length ≤ 1048576 → inB b.chs → (-9223372036854775808 ≤ b.next ∧ b.next ≤ 9223372036854775807) → (-9223372036854775808 ≤ o ∧ o ≤ 9223372036854775807) → Calls Try.prog 21 #[bfV b.next (.slice A b.chs.length cap), .int .i64 o] w fun e w' => e = .returned (.int .i64 (byteB b.chs o)) ∧ Below w.heap.size w w')
    (b : Bf) (o : Int) (A : Option Addr) (cap : Nat) (w : World) (hr : Chs w w.heap.size A b.chs) (hn : b.chs.length ≤ maxLen) (hi : inB b.chs) (hnx : -9223372036854775808 ≤ b.next ∧ b.next ≤ 9223372036854775807) (ho : -9223372036854775808 ≤ o ∧ o ≤ 9223372036854775807) :
    Calls Try.prog 10 #[bfV b.next (.slice A b.chs.length cap), .int .i64 o] w fun e w' => e = .returned (.bool true) ∧ Below w.heap.size w w' := by
  have HW := Lib.hid (InB.start w b.next A cap b.chs 47 hr)
  have HZ := Lib.hid (lszb 1048576 (by decide) (by decide) b A cap w.heap.size _ (Nat.le_of_lt HW.out.2.2.1) HW.out.2.1 (by unfold maxLen at hn; omega) (fun c hc => by have := (hi c hc).1; unfold maxLen at this; omega))
  have hlow := (szB_low 1048576 b (by decide)).1
  by_cases hneg : szB 1048576 b < 0
  · generalize szB 1048576 b = m at *
    have hd : decide (m < 0) = true := decide_eq_true hneg
    clear hneg hlow hr hi ho
    go_enter Try.func10, Try.ntmps10
    go_wp2_with fail
    refine HZ.out.mono ?_
    rintro e w1 ⟨rfl, hb1⟩
    have H1 := Lib.hid (HW.out.next hb1)
    clear hb1
    go_wp2
    go_ret
    exact ⟨rfl, H1.out.2.2.2⟩
  · have hlen := (szB_ok (N := 1048576) (b := b) (by decide) (by omega)).1
    have HS : Hid (∀ (g : Nat) (W : World), Chs W W.heap.size (some ⟨g, 0, none⟩) b.chs → Calls Try.prog 20 #[bfV b.next (.slice (some ⟨g, 0, none⟩) b.chs.length b.chs.length), .int .i64 o] W fun e w' => e = .returned (.int .i64 (byteB b.chs o)) ∧ Below W.heap.size W w') := Lib.hid fun g W h => sbyteat b.next b.chs o _ _ W.heap.size W (Nat.le_refl _) h (by omega) hi ho
    have HM : Hid (∀ (g : Nat) (W : World), Chs W W.heap.size (some ⟨g, 0, none⟩) b.chs → Calls Try.prog 21 #[bfV b.next (.slice (some ⟨g, 0, none⟩) b.chs.length b.chs.length), .int .i64 o] W fun e w' => e = .returned (.int .i64 (byteB b.chs o)) ∧ Below W.heap.size W w') := Lib.hid fun g W h => HI b o _ _ W.heap.size W (Nat.le_refl _) h hlen hi hnx ho
    generalize szB 1048576 b = m at *
    have hd : decide (m < 0) = false := decide_eq_false hneg
    obtain ⟨x, hx⟩ : ∃ x, byteB b.chs o = x := ⟨_, rfl⟩
    rw [hx] at HS HM
    have hxx := bne_int x
    obtain ⟨nx, l⟩ := b
    dsimp only at *
    clear hneg hlow hr hi hx HI hnx ho
    go_enter Try.func10, Try.ntmps10
    go_wp2_with fail
    refine HZ.out.mono ?_
    rintro e w1 ⟨rfl, hb1⟩
    have H1 := Lib.hid (HW.out.next hb1)
    clear hb1 HW HZ
    obtain ⟨a0, a1⟩ := H1.out.1
    go_wp2_with fail
    refine (H1.out.to hlen).mono ?_
    rintro e w2 ⟨rfl, ho2, hb2⟩
    have H2 := Lib.hid (H1.out.next hb2)
    have HO2 := Lib.hid ho2.chs
    clear ho2 hb2 a0 a1
    go_wp2_with fail
    refine (HS.out _ w2 HO2.out).mono ?_
    rintro e w3 ⟨rfl, hb3⟩
    have H3 := Lib.hid (H2.out.next hb3)
    clear hb3 HO2
    obtain ⟨a0, a1⟩ := H3.out.1
    go_wp2_with fail
    refine (H3.out.to hlen).mono ?_
    rintro e w4 ⟨rfl, ho4, hb4⟩
    have H4 := Lib.hid (H3.out.next hb4)
    have HO4 := Lib.hid ho4.chs
    clear ho4 hb4 a0 a1
    generalize w3.heap.size + 1 + 1 + 1 = g4 at *
    have HC5 := Lib.hid (CellB.new w4 nx (.slice (some ⟨g4, 0, none⟩) l.length l.length) 26)
    have H5 := Lib.hid (H4.out.alloc (.cells #[.int .i64 nx, .slice (some ⟨g4, 0, none⟩) l.length l.length] 26))
    have HO5 := Lib.hid (HO4.out.below (Nat.le_refl _) ((Below.refl _ _).alloc (Nat.le_refl _) (.cells #[.int .i64 nx, .slice (some ⟨g4, 0, none⟩) l.length l.length] 26)))
    have hsz5 : (w4.alloc (.cells #[.int .i64 nx, .slice (some ⟨g4, 0, none⟩) l.length l.length] 26)).heap.size = w4.heap.size + 1 := by simp
    have HSZ5 := Lib.hid hsz5
    clear hsz5 H4 HO4
    go_upto_region 7 with fail
    generalize w4.heap.size = g5 at *
    generalize w4.alloc (.cells #[.int .i64 nx, .slice (some ⟨g4, 0, none⟩) l.length l.length] 26) = w5 at *
    obtain ⟨q0, q1⟩ := HC5.out
    go_wp2_with fail
    refine (HM.out _ w5 (HO5.out.up (by have := HSZ5.out; omega))).mono ?_
    rintro e w6 ⟨rfl, hb6⟩
    have H6 := Lib.hid (H5.out.next hb6)
    have HC6 := Lib.hid (HC5.out.below hb6 (by have := HSZ5.out; omega))
    have HO6 := Lib.hid (HO5.out.below (by have := HSZ5.out; omega) hb6)
    have hg5 : g5 < w6.heap.size := by have := HSZ5.out; have := hb6.size; omega
    clear hb6 q0 q1 HC5 HO5 H5
    obtain ⟨a0, a1⟩ := H6.out.1
    obtain ⟨q0, q1⟩ := HC6.out
    have hg1 := H6.out.2.2.1
    have hS : ∀ W, Below w6.heap.size w6 W → W.cell? ⟨w.heap.size, 0, none⟩ = some (.int .i64 nx) ∧ W.cell? ⟨w.heap.size, 1, none⟩ = some (.slice A l.length cap) ∧ W.cell? ⟨g5, 0, none⟩ = some (.int .i64 nx) ∧ W.cell? ⟨g5, 1, none⟩ = some (.slice (some ⟨g4, 0, none⟩) l.length l.length) := fun W h =>
      ⟨(h.cell (p := ⟨w.heap.size, 0, none⟩) hg1).trans a0, (h.cell (p := ⟨w.heap.size, 1, none⟩) hg1).trans a1, (h.cell (p := ⟨g5, 0, none⟩) hg5).trans q0, (h.cell (p := ⟨g5, 1, none⟩) hg5).trans q1⟩
    have HT := Lib.hid (H6.out.drew.to hlen)
    have HSS := Lib.hid hS
    go_upto_region 10 with fail
    go_region_held3 (fun W => W.cell? ⟨w.heap.size, 0, none⟩ = some (.int .i64 nx) ∧ W.cell? ⟨w.heap.size, 1, none⟩ = some (.slice A l.length cap) ∧ W.cell? ⟨g5, 0, none⟩ = some (.int .i64 nx) ∧ W.cell? ⟨g5, 1, none⟩ = some (.slice (some ⟨g4, 0, none⟩) l.length l.length)) (first | exact hS _ (Below.refl _ _).drew | exact HSA.out | exact HSB.out) (first | (go_at_call 38; refine HT.out.mono ?_; rintro e w7 ⟨rfl, ho7, hb7⟩; have HB7 := Lib.hid ((Below.refl w6.heap.size w6).drew.trans hb7); have HSA := Lib.hid (HSS.out w7 HB7.out); have HR7 := Lib.hid ho7.chs; have HP7 := Lib.hid ((HO6.out.below (Nat.le_of_lt hg5) HB7.out).up (Nat.le_trans (Nat.le_of_lt hg5) HB7.out.size)); have H7 := Lib.hid (H6.out.drew.next hb7); clear ho7 hb7) | (go_at_call 39; refine (eqbuf nx l _ _ _ _ w7.heap.size w7 (Nat.le_refl _) HP7.out HR7.out (by omega)).mono ?_; rintro e w8 ⟨rfl, hb8⟩; have HSB := Lib.hid (HSS.out w8 (HB7.out.trans (hb8.mono HB7.out.size))); have H8 := Lib.hid (H7.out.next hb8); clear hb8))
    go_wp2
    go_ret
    exact ⟨rfl, H8.out.2.2.2⟩
end Go.Proofs.Ytmaaldmakgjplaa
