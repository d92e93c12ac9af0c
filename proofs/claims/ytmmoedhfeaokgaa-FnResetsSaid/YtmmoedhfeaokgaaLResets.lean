/-
  The law on resets, walked.
-/
import Derived.Test.YtmmoedhfeaokgaaGDrR
import Derived.Test.YtmmoedhfeaokgaaRcN2
import Derived.Test.YtmmoedhfeaokgaaSRc5
import Derived.Test.YtmmoedhfeaokgaaIRc3
namespace Go.Proofs.Ytmmoedhfeaokgaa
open Go.RowKit Go.Deep Go.Proofs.Ytmmoedhfeaokgaa.Num

theorem bneIr (x : Int) : (x != x) = false := by simp
/-- What a reset that is taken without an error leaves. -/
theorem rst_facts {r : Rc} {k n : Int} (h : okRc r) (he : (rstRc r k n).2 = 0) : 0 ≤ k ∧ (rstRc r k n).1.fin = n ∧ ((1 < r.st ∧ (rstRc r k n).1 = r) ∨ (r.st ≤ 1 ∧ (rstRc r k n).1.st = 4 ∧ (rstRc r k n).1.buf.chs = [])) := by
  unfold rstRc at he ⊢
  by_cases h1 : okRc r ∧ (0 ≤ k ∧ k ≤ 4611686018427387903) ∧ 0 ≤ n ∧ n ≤ 4611686018427387903
  · rw [if_neg (fun x => x h1)] at he ⊢
    by_cases h2 : badRc r n true
    · rw [if_pos h2] at he
      exact absurd (show (6 : Int) = 0 from he) (by decide)
    · rw [if_neg h2] at he ⊢
      by_cases h3 : 1 < r.st
      · rw [if_pos h3]
        refine ⟨h1.2.1.1, ?_, .inl ⟨h3, rfl⟩⟩
        have hf : r.fin ≠ -1 := by
          rcases h.2 with ⟨h0, _⟩ | ⟨h0, _⟩ | ⟨_, h0, _⟩ | ⟨_, h0, _⟩ | ⟨_, h0, _⟩
          · omega
          · omega
          · exact h0.1
          · exact h0.1
          · exact h0
        by_cases h4 : n = r.fin
        · exact h4.symm
        · exact absurd (bad_true.2 (.inr ⟨hf, h4⟩)) h2
      · rw [if_neg h3]
        exact ⟨h1.2.1.1, rfl, .inr ⟨by omega, rfl, rfl⟩⟩
  · rw [if_pos h1] at he
    exact absurd (show (7 : Int) = 0 from he) (by decide)

set_option maxRecDepth 100000 in
set_option maxHeartbeats 4000000 in
/-- The law. -/
theorem law_Resets (A : Option Addr) (len cap : Nat) (w : World) (hlen : len ≤ maxLen) (hcode : Code w w.heap.size A len) :
    Calls Try.prog 3 #[.slice A len cap] w fun e w' => e = .returned (.bool true) ∧ Below w.heap.size w w' := by
  by_cases hbig : 1048576 < len
  · go_enter Try.func3, Try.ntmps3
    go_wp2_with (go_at_call 14; refine (big_yes A len cap _ hbig hlen).mono ?_; rintro e w' ⟨rfl, rfl⟩)
    go_ret
    exact ⟨rfl, Below.refl _ _⟩
  have hsm : len ≤ 1048576 := by omega
  clear hbig
  have HC := Lib.hid hcode
  have HL := Lib.hid hlen
  clear hcode hlen
  go_enter Try.func3, Try.ntmps3
  go_wp2_with fail
  refine (big_no A len cap _ hsm).mono ?_
  rintro e w' ⟨rfl, rfl⟩
  go_wp2_with fail
  refine (draw_rst A len cap _ HL.out HC.out).mono ?_
  rintro e w1 ⟨r, v, k, n, rfl, hsb, hk, hn, ho, hb1⟩
  obtain ⟨A1, c1, rfl, hcap, _⟩ := ho.frs
  have VB := Lib.hid (VarR.new r 28 ho hb1.size)
  have B2 := Lib.hid (hb1.alloc hb1.size (.cells (rcC r.st r.buf.next (.slice A1 r.buf.chs.length c1) r.fin r.hi r.code) 28))
  have hl6 := hsb.2.1
  have hib : inB r.buf.chs := okB_in hsb.1 (by have := hsb.2.2.1; omega)
  have HX := Lib.hid hsb.2.2.2
  -- what the calls on this receiver return
  have HTI : Hid (∀ W, Chs W W.heap.size A1 r.buf.chs → Calls Try.prog 16 #[rcV r (.slice A1 r.buf.chs.length c1), .int .i64 k, .int .i64 n] W fun e w' => ∃ v, e = .returned (.tuple #[rcV (rstRc r k n).1 v, .int .i64 (rstRc r k n).2]) ∧ OwnX w' W.heap.size v (rstRc r k n).1.buf.chs ∧ Below W.heap.size W w') := Lib.hid fun W h => irstrc r k n A1 c1 W.heap.size W (Nat.le_refl _) h (by omega) hib HX.out
  have HTS : Hid (∀ W, Chs W W.heap.size A1 r.buf.chs → Calls Try.prog 17 #[rcV r (.slice A1 r.buf.chs.length c1), .int .i64 k, .int .i64 n] W fun e w' => ∃ v, e = .returned (.tuple #[rcV (rstRc r k n).1 v, .int .i64 (rstRc r k n).2]) ∧ OwnX w' W.heap.size v (rstRc r k n).1.buf.chs ∧ Below W.heap.size W w') := Lib.hid fun W h => srstrc r k n A1 c1 W.heap.size W (Nat.le_refl _) h (by omega) hib HX.out
  have HIS : Hid (∀ W, Chs W W.heap.size A1 r.buf.chs → Calls Try.prog 19 #[rcV r (.slice A1 r.buf.chs.length c1)] W fun e w' => e = .returned (.bool (decide (okRc r))) ∧ Below W.heap.size W w') := Lib.hid fun W h => sisrc r A1 c1 W.heap.size W (Nat.le_refl _) h (by omega) hib HX.out
  have hol := rstRc_len r k n
  have hos := rstRc_sum (r := r) k n
  have HIY : Hid (okRc r → ∀ A c W, Chs W W.heap.size A (rstRc r k n).1.buf.chs → Calls Try.prog 20 #[rcV (rstRc r k n).1 (.slice A (rstRc r k n).1.buf.chs.length c)] W fun e w' => e = .returned (.bool true) ∧ Below W.heap.size W w') := Lib.hid fun hk9 A c W h => by
    have hk2 := okRc_rst k n hk9
    have h2 := iisrc (rstRc r k n).1 A c W.heap.size W (Nat.le_refl _) h (by omega) (okB_in hk2.1.1 (by have := hsb.2.2.1; omega)) (okRc_in hk2)
    rw [decide_eq_true hk2] at h2
    exact h2
  have HFA : Hid (okRc r → (rstRc r k n).2 = 0 → 0 ≤ k ∧ (rstRc r k n).1.fin = n ∧ ((1 < r.st ∧ (rstRc r k n).1 = r) ∨ (r.st ≤ 1 ∧ (rstRc r k n).1.st = 4 ∧ (rstRc r k n).1.buf.chs = []))) := Lib.hid fun h1 h2 => rst_facts h1 h2
  have hly : (rstRc r k n).1.buf.chs.length ≤ 6 := by omega
  clear hb1 ho hsb hol hos hk hn
  generalize (rstRc r k n).1 = y at *
  generalize (rstRc r k n).2 = ec at *
  have HEQ : Hid (∀ (X Y : Option Addr) (cx cy : Nat) W, Chs W W.heap.size X y.buf.chs → Chs W W.heap.size Y y.buf.chs → Calls Try.prog 18 #[rcV y (.slice X y.buf.chs.length cx), rcV y (.slice Y y.buf.chs.length cy)] W fun e w' => e = .returned (.bool true) ∧ Below W.heap.size W w') := Lib.hid fun X Y cx cy W h h' => by
    have h2 := seqrc y y X Y cx cy W.heap.size W (Nat.le_refl _) h h' (by omega)
    rw [decide_eq_true (show sameRc y y from ⟨rfl, ⟨rfl, rfl⟩, rfl, rfl, rfl⟩)] at h2
    exact h2
  have HEQ2 : Hid (y = r → ∀ (X : Option Addr) (cx : Nat) W, Chs W W.heap.size X y.buf.chs → Chs W W.heap.size A1 r.buf.chs → Calls Try.prog 18 #[rcV y (.slice X y.buf.chs.length cx), rcV r (.slice A1 r.buf.chs.length c1)] W fun e w' => e = .returned (.bool true) ∧ Below W.heap.size W w') := Lib.hid fun he X cx W h h' => by
    have h2 := seqrc y r X A1 cx c1 W.heap.size W (Nat.le_refl _) h h' (by omega)
    rw [decide_eq_true (show sameRc y r by rw [he]; exact ⟨rfl, ⟨rfl, rfl⟩, rfl, rfl, rfl⟩)] at h2
    exact h2
  have hee := bneIr ec
  go_upto_region 4 with fail
  generalize w1.alloc (.cells (rcC r.st r.buf.next (.slice A1 r.buf.chs.length c1) r.fin r.hi r.code) 28) = w2 at *
  generalize w1.heap.size = kb at *
  obtain ⟨p0, p1, p2, p3, p4, p5⟩ := VB.out.1
  go_wp2_with fail
  refine (HTI.out w2 VB.out.2.1.chs).mono ?_
  rintro e w3 ⟨v3, rfl, ho3, hb3⟩
  obtain ⟨A3, c3, rfl, _, _⟩ := ho3.frs
  have X4 := Lib.hid (VarR.new y 28 ho3 hb3.size)
  have V4 := Lib.hid ((VB.out.next hb3).alloc (.cells (rcC y.st y.buf.next (.slice A3 y.buf.chs.length c3) y.fin y.hi y.code) 28))
  have B4 := Lib.hid ((B2.out.trans (hb3.mono B2.out.size)).alloc (Nat.le_trans B2.out.size hb3.size) (.cells (rcC y.st y.buf.next (.slice A3 y.buf.chs.length c3) y.fin y.hi y.code) 28))
  clear ho3 hb3 VB B2 p0 p1 p2 p3 p4 p5 HTI
  go_upto_region 5 with fail
  generalize w3.alloc (.cells (rcC y.st y.buf.next (.slice A3 y.buf.chs.length c3) y.fin y.hi y.code) 28) = w4 at *
  generalize w3.heap.size = kx at *
  obtain ⟨p0, p1, p2, p3, p4, p5⟩ := V4.out.1
  go_wp2_with fail
  refine (HTS.out w4 V4.out.2.1.chs).mono ?_
  rintro e w5 ⟨v5, rfl, ho5, hb5⟩
  obtain ⟨A5, c5, rfl, _, _⟩ := ho5.frs
  have Y6 := Lib.hid (VarR.new y 28 ho5 hb5.size)
  have V6 := Lib.hid ((V4.out.next hb5).alloc (.cells (rcC y.st y.buf.next (.slice A5 y.buf.chs.length c5) y.fin y.hi y.code) 28))
  have X6 := Lib.hid ((X4.out.next hb5).alloc (.cells (rcC y.st y.buf.next (.slice A5 y.buf.chs.length c5) y.fin y.hi y.code) 28))
  have B6 := Lib.hid ((B4.out.trans (hb5.mono B4.out.size)).alloc (Nat.le_trans B4.out.size hb5.size) (.cells (rcC y.st y.buf.next (.slice A5 y.buf.chs.length c5) y.fin y.hi y.code) 28))
  clear ho5 hb5 V4 X4 B4 p0 p1 p2 p3 p4 p5 HTS
  go_upto_region 6 with fail
  generalize w5.alloc (.cells (rcC y.st y.buf.next (.slice A5 y.buf.chs.length c5) y.fin y.hi y.code) 28) = w6 at *
  generalize w5.heap.size = ky at *
  obtain ⟨x0, x1, x2, x3, x4, x5⟩ := X6.out.1
  obtain ⟨y0, y1, y2, y3, y4, y5⟩ := Y6.out.1
  go_wp2_with fail
  refine (HEQ.out _ _ _ _ w6 X6.out.2.1.chs Y6.out.2.1.chs).mono ?_
  rintro e w7 ⟨rfl, hb7⟩
  have Y7 := Lib.hid (Y6.out.next hb7)
  have V7 := Lib.hid (V6.out.next hb7)
  have B7 := Lib.hid (B6.out.trans (hb7.mono B6.out.size))
  clear hb7 x0 x1 x2 x3 x4 x5 y0 y1 y2 y3 y4 y5 X6 Y6 V6 B6 HEQ hee
  obtain ⟨p0, p1, p2, p3, p4, p5⟩ := V7.out.1
  by_cases hok : okRc r
  rotate_left
  · rw [decide_eq_false hok] at HIS
    clear hok HIY HFA HEQ2
    go_wp2_with fail
    refine (HIS.out w7 V7.out.2.1.chs).mono ?_
    rintro e w8 ⟨rfl, hb8⟩
    have B8 := Lib.hid (B7.out.trans (hb8.mono B7.out.size))
    clear hb8 p0 p1 p2 p3 p4 p5
    go_wp2
    go_ret
    exact ⟨rfl, B8.out⟩
  rw [decide_eq_true hok] at HIS
  by_cases he : ec = 0
  rotate_left
  · have d0 : (ec == 0) = false := by simpa using he
    clear hok he HIY HFA HEQ2
    go_wp2_with fail
    refine (HIS.out w7 V7.out.2.1.chs).mono ?_
    rintro e w8 ⟨rfl, hb8⟩
    have B8 := Lib.hid (B7.out.trans (hb8.mono B7.out.size))
    clear hb8 p0 p1 p2 p3 p4 p5
    go_wp2
    go_ret
    exact ⟨rfl, B8.out⟩
  have d0 : (ec == 0) = true := by simpa using he
  obtain ⟨hk0, hfn, hcase⟩ := HFA.out hok he
  have dk : decide (0 ≤ k) = true := decide_eq_true hk0
  have df : (y.fin != n) = false := by simpa using hfn
  have HIY2 := Lib.hid (HIY.out hok)
  clear hok he HIY HFA hk0 hfn
  rcases hcase with ⟨hs, hyr⟩ | ⟨hs, hy4, hyc⟩
  · have ds : decide (1 < r.st) = true := decide_eq_true hs
    have dl : decide (r.st ≤ 1) = false := decide_eq_false (by omega)
    have HEQ3 := Lib.hid (HEQ2.out hyr)
    clear hs hyr HEQ2
    go_wp2_with fail
    refine (HIS.out w7 V7.out.2.1.chs).mono ?_
    rintro e w8 ⟨rfl, hb8⟩
    have Y8 := Lib.hid (Y7.out.next hb8)
    have V8 := Lib.hid (V7.out.next hb8)
    have B8 := Lib.hid (B7.out.trans (hb8.mono B7.out.size))
    clear hb8 p0 p1 p2 p3 p4 p5 Y7 V7 B7
    obtain ⟨y0, y1, y2, y3, y4, y5⟩ := Y8.out.1
    go_wp2_with fail
    refine (HIY2.out _ _ w8 Y8.out.2.1.chs).mono ?_
    rintro e w9 ⟨rfl, hb9⟩
    have Y9 := Lib.hid (Y8.out.next hb9)
    have V9 := Lib.hid (V8.out.next hb9)
    have B9 := Lib.hid (B8.out.trans (hb9.mono B8.out.size))
    clear hb9 y0 y1 y2 y3 y4 y5 Y8 V8 B8
    obtain ⟨y0, y1, y2, y3, y4, y5⟩ := Y9.out.1
    obtain ⟨p0, p1, p2, p3, p4, p5⟩ := V9.out.1
    go_wp2_with fail
    refine (HEQ3.out _ _ w9 Y9.out.2.1.chs V9.out.2.1.chs).mono ?_
    rintro e wa ⟨rfl, hba⟩
    have Va := Lib.hid (V9.out.next hba)
    have Ba := Lib.hid (B9.out.trans (hba.mono B9.out.size))
    clear hba y0 y1 y2 y3 y4 y5 p0 p1 p2 p3 p4 p5 Y9 V9 B9
    obtain ⟨p0, p1, p2, p3, p4, p5⟩ := Va.out.1
    go_wp2
    go_ret
    exact ⟨rfl, Ba.out⟩
  · have ds : decide (1 < r.st) = false := decide_eq_false (by omega)
    have dl : decide (r.st ≤ 1) = true := decide_eq_true hs
    have d4 : (y.st != 4) = false := by simpa using hy4
    have dn : ((y.buf.chs.length : Int) != 0) = false := by rw [hyc]; rfl
    have HYC := Lib.hid hyc
    clear hs hy4 hyc HEQ2
    go_wp2_with fail
    refine (HIS.out w7 V7.out.2.1.chs).mono ?_
    rintro e w8 ⟨rfl, hb8⟩
    have Y8 := Lib.hid (Y7.out.next hb8)
    have V8 := Lib.hid (V7.out.next hb8)
    have B8 := Lib.hid (B7.out.trans (hb8.mono B7.out.size))
    clear hb8 p0 p1 p2 p3 p4 p5 Y7 V7 B7
    obtain ⟨y0, y1, y2, y3, y4, y5⟩ := Y8.out.1
    go_wp2_with fail
    refine (HIY2.out _ _ w8 Y8.out.2.1.chs).mono ?_
    rintro e w9 ⟨rfl, hb9⟩
    have Y9 := Lib.hid (Y8.out.next hb9)
    have V9 := Lib.hid (V8.out.next hb9)
    have B9 := Lib.hid (B8.out.trans (hb9.mono B8.out.size))
    clear hb9 y0 y1 y2 y3 y4 y5 Y8 V8 B8
    obtain ⟨y0, y1, y2, y3, y4, y5⟩ := Y9.out.1
    obtain ⟨p0, p1, p2, p3, p4, p5⟩ := V9.out.1
    go_wp2
    go_ret
    exact ⟨rfl, B9.out⟩
end Go.Proofs.Ytmmoedhfeaokgaa
