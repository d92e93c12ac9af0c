/-
  The law on reading, walked.
-/
import Derived.Test.YtmmoedhfeaokgaaGDrR
import Derived.Test.YtmmoedhfeaokgaaRcN2
import Derived.Test.YtmmoedhfeaokgaaSRc5
import Derived.Test.YtmmoedhfeaokgaaIRc4
import Derived.Deep.RegionHeld
namespace Go.Proofs.Ytmmoedhfeaokgaa
open Go.RowKit Go.Deep Go.Proofs.Ytmmoedhfeaokgaa.Num


/-- What reading a receiver that is not valid gives. -/
theorem read_bad {r : Rc} {m : Int} (h : ¬ okRc r) : (readRc r m).1 = ⟨#[]⟩ := by
  unfold readRc
  rw [if_pos h]
/-- What a read leaves: a state that is no less; all was read exactly at the final size. -/
theorem read_facts {r : Rc} {m : Int} (h : okRc r) : r.st ≤ (readRc r m).2.st ∧ ((readRc r m).2.st = 3 → (readRc r m).2.buf.next = (readRc r m).2.fin) := by
  have hy := okRc_read m h
  refine ⟨?_, fun h3 => ?_⟩
  · rw [read_beh m h]
    show r.st ≤ behRc _
    unfold behRc
    split
    · rename_i h2
      have h4 : r.st = 2 := h2.1
      omega
    · split
      · rename_i h2
        have h4 : r.st = 4 := h2
        omega
      · exact Int.le_refl _
  · rcases hy.2 with ⟨h0, _⟩ | ⟨h0, _⟩ | ⟨h0, _⟩ | ⟨_, h1, h2, _⟩ | ⟨h0 | h0, _⟩
    · omega
    · omega
    · omega
    · have hr : rdyB (readRc r m).2.buf = 0 := by
        by_cases h5 : rdyB (readRc r m).2.buf = 0
        · exact h5
        · obtain ⟨_, c, l, hl, _, _⟩ := rdyB_pos h5
          rw [h2] at hl
          cases hl
      have := h1.2
      omega
    · omega
    · omega
/-- A variable that holds y, and what was made since. -/
def YW (w : World) (B g : Nat) (y : Rc) (v : Value) (W : World) : Prop := VarR W B g y v ∧ Below w.heap.size w W
theorem YW.next {w : World} {B g : Nat} {y : Rc} {v : Value} {W W' : World} (h : YW w B g y v W) (hb : Below W.heap.size W W') : YW w B g y v W' := ⟨h.1.next hb, h.2.trans (hb.mono h.2.size)⟩

set_option maxRecDepth 100000 in
set_option maxHeartbeats 4000000 in
/-- The law. -/
theorem law_Reads (A : Option Addr) (len cap : Nat) (w : World) (hlen : len ≤ maxLen) (hcode : Code w w.heap.size A len) :
    Calls Try.prog 4 #[.slice A len cap] w fun e w' => e = .returned (.bool true) ∧ Below w.heap.size w w' := by
  by_cases hbig : 1048576 < len
  · go_enter Try.func4, Try.ntmps4
    go_wp2_with (go_at_call 14; refine (big_yes A len cap _ hbig hlen).mono ?_; rintro e w' ⟨rfl, rfl⟩)
    go_ret
    exact ⟨rfl, Below.refl _ _⟩
  have hsm : len ≤ 1048576 := by omega
  clear hbig
  have HC := Lib.hid hcode
  have HL := Lib.hid hlen
  clear hcode hlen
  go_enter Try.func4, Try.ntmps4
  go_wp2_with fail
  refine (big_no A len cap _ hsm).mono ?_
  rintro e w' ⟨rfl, rfl⟩
  go_wp2_with fail
  refine (draw_read A len cap _ HL.out HC.out).mono ?_
  rintro e w1 ⟨r, v, m, rfl, hsb, hm, ho, hb1⟩
  obtain ⟨A1, c1, rfl, _, _⟩ := ho.frs
  have VB := Lib.hid (VarR.new r 28 ho hb1.size)
  have B2 := Lib.hid (hb1.alloc hb1.size (.cells (rcC r.st r.buf.next (.slice A1 r.buf.chs.length c1) r.fin r.hi r.code) 28))
  have hl6 := hsb.2.1
  have hib : inB r.buf.chs := okB_in hsb.1 (by have := hsb.2.2.1; omega)
  have HX := Lib.hid hsb.2.2.2
  have HTI : Hid (∀ W, Chs W W.heap.size A1 r.buf.chs → Calls Try.prog 22 #[rcV r (.slice A1 r.buf.chs.length c1), .int .i64 m] W fun e w' => ∃ v, e = .returned (.tuple #[.string (readRc r m).1, rcV (readRc r m).2 v]) ∧ OwnX w' W.heap.size v (readRc r m).2.buf.chs ∧ Below W.heap.size W w') := Lib.hid fun W h => ireadrc r m A1 c1 W.heap.size W (Nat.le_refl _) h (by omega) hib HX.out (by omega)
  have HTS : Hid (∀ W, Chs W W.heap.size A1 r.buf.chs → Calls Try.prog 23 #[rcV r (.slice A1 r.buf.chs.length c1), .int .i64 m] W fun e w' => ∃ v, e = .returned (.tuple #[.string (readRc r m).1, rcV (readRc r m).2 v]) ∧ OwnX w' W.heap.size v (readRc r m).2.buf.chs ∧ Below W.heap.size W w') := Lib.hid fun W h => sreadrc r m A1 c1 W.heap.size W (Nat.le_refl _) h (by omega) hib HX.out (by omega)
  have HIS : Hid (∀ W, Chs W W.heap.size A1 r.buf.chs → Calls Try.prog 19 #[rcV r (.slice A1 r.buf.chs.length c1)] W fun e w' => e = .returned (.bool (decide (okRc r))) ∧ Below W.heap.size W w') := Lib.hid fun W h => sisrc r A1 c1 W.heap.size W (Nat.le_refl _) h (by omega) hib HX.out
  have hol := readRc_len r m
  have hos := readRc_sum (r := r) m
  have HIY : Hid (okRc r → ∀ A c W, Chs W W.heap.size A (readRc r m).2.buf.chs → Calls Try.prog 20 #[rcV (readRc r m).2 (.slice A (readRc r m).2.buf.chs.length c)] W fun e w' => e = .returned (.bool true) ∧ Below W.heap.size W w') := Lib.hid fun hk9 A c W h => by
    have hk2 := okRc_read m hk9
    have h2 := iisrc (readRc r m).2 A c W.heap.size W (Nat.le_refl _) h (by omega) (okB_in hk2.1.1 (by have := hsb.2.2.1; omega)) (okRc_in hk2)
    rw [decide_eq_true hk2] at h2
    exact h2
  have HGY : Hid (okRc r → ∀ A c W, Chs W W.heap.size A (readRc r m).2.buf.chs → Calls Try.prog 24 #[rcV (readRc r m).2 (.slice A (readRc r m).2.buf.chs.length c)] W fun e w' => e = .returned (.bool (decide ((readRc r m).2.st = 3 ∨ (readRc r m).2.st = 5))) ∧ Below W.heap.size W w') := Lib.hid fun hk9 A c W h => by
    have hk2 := okRc_read m hk9
    have h2 := igotrc (readRc r m).2 A c W.heap.size W (Nat.le_refl _) h (by omega) (okB_in hk2.1.1 (by have := hsb.2.2.1; omega)) (okRc_in hk2)
    rw [show decide (gotRc (readRc r m).2) = decide ((readRc r m).2.st = 3 ∨ (readRc r m).2.st = 5) from decide_eq_decide.2 ⟨fun h9 => h9.2, fun h9 => ⟨hk2, h9⟩⟩] at h2
    exact h2
  have HFA : Hid (okRc r → r.st ≤ (readRc r m).2.st ∧ ((readRc r m).2.st = 3 → (readRc r m).2.buf.next = (readRc r m).2.fin)) := Lib.hid fun h1 => read_facts h1
  have HFB : Hid (¬ okRc r → (readRc r m).1 = ⟨#[]⟩) := Lib.hid fun h1 => read_bad h1
  have hly : (readRc r m).2.buf.chs.length ≤ 6 := by omega
  clear hb1 ho hsb hol hos hm
  generalize (readRc r m).2 = y at *
  generalize (readRc r m).1 = s at *
  have HEQ : Hid (∀ (X Y : Option Addr) (cx cy : Nat) W, Chs W W.heap.size X y.buf.chs → Chs W W.heap.size Y y.buf.chs → Calls Try.prog 18 #[rcV y (.slice X y.buf.chs.length cx), rcV y (.slice Y y.buf.chs.length cy)] W fun e w' => e = .returned (.bool true) ∧ Below W.heap.size W w') := Lib.hid fun X Y cx cy W h h' => by
    have h2 := seqrc y y X Y cx cy W.heap.size W (Nat.le_refl _) h h' (by omega)
    rw [decide_eq_true (show sameRc y y from ⟨rfl, ⟨rfl, rfl⟩, rfl, rfl, rfl⟩)] at h2
    exact h2
  go_upto_region 4 with fail
  generalize w1.alloc (.cells (rcC r.st r.buf.next (.slice A1 r.buf.chs.length c1) r.fin r.hi r.code) 28) = w2 at *
  generalize w1.heap.size = kb at *
  obtain ⟨p0, p1, p2, p3, p4, p5⟩ := VB.out.1
  go_wp2_with fail
  refine (HTI.out w2 VB.out.2.1.chs).mono ?_
  rintro e w3 ⟨v3, rfl, ho3, hb3⟩
  obtain ⟨A3, c3, rfl, _, _⟩ := ho3.frs
  have X4 := Lib.hid (VarR.new y 28 ho3 hb3.size)
  have V4 := Lib.hid ((VB.out.next hb3).alloc (.cells (rcC y.st y.buf.next (.slice A3 y.buf.chs.length c3) y.fin y.hi y.code) 28))
  have B4 := Lib.hid ((B2.out.trans (hb3.mono B2.out.size)).alloc (Nat.le_trans B2.out.size hb3.size) (.cells (rcC y.st y.buf.next (.slice A3 y.buf.chs.length c3) y.fin y.hi y.code) 28))
  clear ho3 hb3 VB B2 HTI p0 p1 p2 p3 p4 p5
  go_upto_region 5 with fail
  generalize w3.alloc (.cells (rcC y.st y.buf.next (.slice A3 y.buf.chs.length c3) y.fin y.hi y.code) 28) = w4 at *
  generalize w3.heap.size = kx at *
  obtain ⟨p0, p1, p2, p3, p4, p5⟩ := V4.out.1
  go_wp2_with fail
  refine (HTS.out w4 V4.out.2.1.chs).mono ?_
  rintro e w5 ⟨v5, rfl, ho5, hb5⟩
  obtain ⟨A5, c5, rfl, _, _⟩ := ho5.frs
  have Y6 := Lib.hid (VarR.new y 28 ho5 hb5.size)
  have V6 := Lib.hid ((V4.out.next hb5).alloc (.cells (rcC y.st y.buf.next (.slice A5 y.buf.chs.length c5) y.fin y.hi y.code) 28))
  have X6 := Lib.hid ((X4.out.next hb5).alloc (.cells (rcC y.st y.buf.next (.slice A5 y.buf.chs.length c5) y.fin y.hi y.code) 28))
  have B6 := Lib.hid ((B4.out.trans (hb5.mono B4.out.size)).alloc (Nat.le_trans B4.out.size hb5.size) (.cells (rcC y.st y.buf.next (.slice A5 y.buf.chs.length c5) y.fin y.hi y.code) 28))
  clear ho5 hb5 V4 X4 B4 HTS p0 p1 p2 p3 p4 p5
  go_upto_region 6 with fail
  generalize w5.alloc (.cells (rcC y.st y.buf.next (.slice A5 y.buf.chs.length c5) y.fin y.hi y.code) 28) = w6 at *
  generalize w5.heap.size = ky at *
  obtain ⟨x0, x1, x2, x3, x4, x5⟩ := X6.out.1
  obtain ⟨y0, y1, y2, y3, y4, y5⟩ := Y6.out.1
  go_wp2_with fail
  refine (HEQ.out _ _ _ _ w6 X6.out.2.1.chs Y6.out.2.1.chs).mono ?_
  rintro e w7 ⟨rfl, hb7⟩
  have Y7 := Lib.hid (Y6.out.next hb7)
  have V7 := Lib.hid (V6.out.next hb7)
  have B7 := Lib.hid (B6.out.trans (hb7.mono B6.out.size))
  clear hb7 X6 Y6 V6 B6 HEQ x0 x1 x2 x3 x4 x5 y0 y1 y2 y3 y4 y5
  obtain ⟨p0, p1, p2, p3, p4, p5⟩ := V7.out.1
  by_cases hok : okRc r
  rotate_left
  · rw [decide_eq_false hok] at HIS
    have hs0 := HFB.out hok
    clear hok HIY HGY HFA HFB
    subst hs0
    go_wp2_with fail
    refine (HIS.out w7 V7.out.2.1.chs).mono ?_
    rintro e w8 ⟨rfl, hb8⟩
    have B8 := Lib.hid (B7.out.trans (hb8.mono B7.out.size))
    clear hb8 p0 p1 p2 p3 p4 p5
    go_wp2
    go_ret
    exact ⟨rfl, B8.out⟩
  rw [decide_eq_true hok] at HIS
  obtain ⟨hst, h3f⟩ := HFA.out hok
  have dl : decide (y.st < r.st) = false := decide_eq_false (by omega)
  have HIY2 := Lib.hid (HIY.out hok)
  have HGY2 := Lib.hid (HGY.out hok)
  clear hok HIY HGY HFA HFB hst
  go_wp2_with fail
  refine (HIS.out w7 V7.out.2.1.chs).mono ?_
  rintro e w8 ⟨rfl, hb8⟩
  have Y8 := Lib.hid (Y7.out.next hb8)
  have V8 := Lib.hid (V7.out.next hb8)
  have B8 := Lib.hid (B7.out.trans (hb8.mono B7.out.size))
  clear hb8 Y7 V7 B7 p0 p1 p2 p3 p4 p5
  obtain ⟨y0, y1, y2, y3, y4, y5⟩ := Y8.out.1
  go_wp2_with fail
  refine (HIY2.out _ _ w8 Y8.out.2.1.chs).mono ?_
  rintro e w9 ⟨rfl, hb9⟩
  have Y9 := Lib.hid (Y8.out.next hb9)
  have V9 := Lib.hid (V8.out.next hb9)
  have B9 := Lib.hid (B8.out.trans (hb9.mono B8.out.size))
  clear hb9 Y8 V8 B8 y0 y1 y2 y3 y4 y5
  obtain ⟨y0, y1, y2, y3, y4, y5⟩ := Y9.out.1
  obtain ⟨p0, p1, p2, p3, p4, p5⟩ := V9.out.1
  go_upto_region 12 with fail
  clear y0 y1 y2 y3 y4 y5 p0 p1 p2 p3 p4 p5
  have HH : Hid (YW w w4.heap.size ky y (.slice A5 y.buf.chs.length c5) w9.drew) := Lib.hid (YW.next ⟨Y9.out, B9.out⟩ (Below.refl _ _).drew)
  by_cases h5 : y.st = 5
  · have HGO : Hid (∀ W, YW w w4.heap.size ky y (.slice A5 y.buf.chs.length c5) W → Calls Try.prog 24 #[rcV y (.slice A5 y.buf.chs.length c5)] W fun e w' => e = .returned (.bool true) ∧ Below W.heap.size W w') := Lib.hid fun W h => by
      have h9 := HGY2.out A5 c5 W h.1.2.1.chs
      rw [decide_eq_true (show y.st = 3 ∨ y.st = 5 by omega)] at h9
      exact h9
    have d5 : (y.st == 5) = true := by simpa using h5
    have n3 : (y.st != 3) = true := by simp [h5]
    clear h3f h5 HGY2 HIY2 HIS V9 Y9 B9
    refine wp_region_held_drew (S := (YW w w4.heap.size ky y (.slice A5 y.buf.chs.length c5))) (by kernel_rfl) HH.out (fun hHeld => ?_)
    refine wpAnyH_take (i := 0) (v := ?_) rfl (by kernel_rfl) (by kernel_rfl) (by kernel_rfl) (fun _ _ _ h => h) (Or.inl ⟨by rfl, ?_⟩) hHeld ?_
    rotate_left
    · (intro wx hSx; obtain ⟨a0, a1, a2, a3, a4, a5⟩ := hSx.1.1; go_simp; (try with_reducible rfl))
    (try simp only [Act.put, List.getElem_toArray, List.getElem_cons_zero, List.setIfInBounds_toArray, List.set_cons_succ, List.set_cons_zero])
    refine wpAnyH_take (i := 2) (v := ?_) rfl (by kernel_rfl) (by kernel_rfl) (by kernel_rfl) (fun _ _ _ h => h) (Or.inl ⟨by rfl, ?_⟩) hHeld ?_
    rotate_left
    · (intro wx hSx; obtain ⟨a0, a1, a2, a3, a4, a5⟩ := hSx.1.1; go_simp; (try with_reducible rfl))
    (try simp only [Act.put, List.getElem_toArray, List.getElem_cons_succ, List.getElem_cons_zero, List.setIfInBounds_toArray, List.set_cons_succ, List.set_cons_zero])
    refine wpAnyH_take (i := 3) (v := ?_) rfl (by kernel_rfl) (by kernel_rfl) (by kernel_rfl) (fun _ _ _ h => h) (Or.inl ⟨by rfl, ?_⟩) hHeld ?_
    rotate_left
    · (intro wx hSx; obtain ⟨a0, a1, a2, a3, a4, a5⟩ := hSx.1.1; go_simp; (try with_reducible rfl))
    (try simp only [Act.put, List.getElem_toArray, List.getElem_cons_succ, List.getElem_cons_zero, List.setIfInBounds_toArray, List.set_cons_succ, List.set_cons_zero])
    refine wpAnyH_take (i := 4) (v := ?_) rfl (by kernel_rfl) (by kernel_rfl) (by kernel_rfl) (fun _ _ _ h => h) (Or.inl ⟨by rfl, ?_⟩) hHeld ?_
    rotate_left
    · (intro wx hSx; obtain ⟨a0, a1, a2, a3, a4, a5⟩ := hSx.1.1; go_simp; (try with_reducible rfl))
    (try simp only [Act.put, List.getElem_toArray, List.getElem_cons_succ, List.getElem_cons_zero, List.setIfInBounds_toArray, List.set_cons_succ, List.set_cons_zero])
    refine wpAnyH_ready (rs := [1]) (by kernel_rfl) (by simp) ?_
    refine AllReadyH.cons rfl (fun K hK => ?_) AllReadyH.nil
    rw [if_pos (by rfl)]
    go_simp
    refine (HGO.out _ HH.out).mono ?_
    rintro e w1 ⟨rfl, hb1⟩
    have HH := Lib.hid (HH.out.next hb1)
    (try simp only [])
    refine hK.out _ _ HH.out (fun hHeld => ?_)
    clear hb1
    clear hK K
    (try simp only [Act.put, List.getElem_toArray, List.getElem_cons_succ, List.getElem_cons_zero, List.setIfInBounds_toArray, List.set_cons_succ, List.set_cons_zero])
    refine wpAnyH_take (i := 5) (v := ?_) rfl (by kernel_rfl) (by kernel_rfl) (by kernel_rfl) (fun _ _ _ h => h) (Or.inl ⟨by rfl, ?_⟩) hHeld ?_
    rotate_left
    · (intro wx hSx; obtain ⟨a0, a1, a2, a3, a4, a5⟩ := hSx.1.1; go_simp; (try with_reducible rfl))
    (try simp only [Act.put, List.getElem_toArray, List.getElem_cons_succ, List.getElem_cons_zero, List.setIfInBounds_toArray, List.set_cons_succ, List.set_cons_zero])
    refine wpAnyH_take (i := 6) (v := undef) rfl (by kernel_rfl) (by kernel_rfl) (by kernel_rfl) (fun _ _ _ h => h) (Or.inr ⟨by rfl, rfl⟩) hHeld ?_
    (try simp only [Act.put, List.getElem_toArray, List.getElem_cons_succ, List.getElem_cons_zero, List.setIfInBounds_toArray, List.set_cons_succ, List.set_cons_zero])
    refine wpAnyH_take (i := 7) (v := undef) rfl (by kernel_rfl) (by kernel_rfl) (by kernel_rfl) (fun _ _ _ h => h) (Or.inr ⟨by rfl, rfl⟩) hHeld ?_
    (try simp only [Act.put, List.getElem_toArray, List.getElem_cons_succ, List.getElem_cons_zero, List.setIfInBounds_toArray, List.set_cons_succ, List.set_cons_zero])
    refine wpAnyH_take (i := 8) (v := undef) rfl (by kernel_rfl) (by kernel_rfl) (by kernel_rfl) (fun _ _ _ h => h) (Or.inr ⟨by rfl, rfl⟩) hHeld ?_
    (try simp only [Act.put, List.getElem_toArray, List.getElem_cons_succ, List.getElem_cons_zero, List.setIfInBounds_toArray, List.set_cons_succ, List.set_cons_zero])
    refine wpAnyH_take (i := 9) (v := ?_) rfl (by kernel_rfl) (by kernel_rfl) (by kernel_rfl) (fun _ _ _ h => h) (Or.inl ⟨by rfl, ?_⟩) hHeld ?_
    rotate_left
    · (intro wx hSx; obtain ⟨a0, a1, a2, a3, a4, a5⟩ := hSx.1.1; go_simp; (try with_reducible rfl))
    (try simp only [Act.put, List.getElem_toArray, List.getElem_cons_succ, List.getElem_cons_zero, List.setIfInBounds_toArray, List.set_cons_succ, List.set_cons_zero])
    refine wpAnyH_take (i := 10) (v := ?_) rfl (by kernel_rfl) (by kernel_rfl) (by kernel_rfl) (fun _ _ _ h => h) (Or.inl ⟨by rfl, ?_⟩) hHeld ?_
    rotate_left
    · (intro wx hSx; obtain ⟨a0, a1, a2, a3, a4, a5⟩ := hSx.1.1; go_simp; (try with_reducible rfl))
    (try simp only [Act.put, List.getElem_toArray, List.getElem_cons_succ, List.getElem_cons_zero, List.setIfInBounds_toArray, List.set_cons_succ, List.set_cons_zero])
    refine wpAnyH_take (i := 11) (v := ?_) rfl (by kernel_rfl) (by kernel_rfl) (by kernel_rfl) (fun _ _ _ h => h) (Or.inl ⟨by rfl, ?_⟩) hHeld ?_
    rotate_left
    · (intro wx hSx; obtain ⟨a0, a1, a2, a3, a4, a5⟩ := hSx.1.1; go_simp; (try with_reducible rfl))
    (try simp only [Act.put, List.getElem_toArray, List.getElem_cons_succ, List.getElem_cons_zero, List.setIfInBounds_toArray, List.set_cons_succ, List.set_cons_zero])
    refine wpAnyH_take (i := 12) (v := ?_) rfl (by kernel_rfl) (by kernel_rfl) (by kernel_rfl) (fun _ _ _ h => h) (Or.inl ⟨by rfl, ?_⟩) hHeld ?_
    rotate_left
    · (intro wx hSx; obtain ⟨a0, a1, a2, a3, a4, a5⟩ := hSx.1.1; go_simp; (try with_reducible rfl))
    (try simp only [Act.put, List.getElem_toArray, List.getElem_cons_succ, List.getElem_cons_zero, List.setIfInBounds_toArray, List.set_cons_succ, List.set_cons_zero])
    refine wpAnyH_take (i := 13) (v := ?_) rfl (by kernel_rfl) (by kernel_rfl) (by kernel_rfl) (fun _ _ _ h => h) (Or.inl ⟨by rfl, ?_⟩) hHeld ?_
    rotate_left
    · (intro wx hSx; obtain ⟨a0, a1, a2, a3, a4, a5⟩ := hSx.1.1; go_simp; (try with_reducible rfl))
    (try simp only [Act.put, List.getElem_toArray, List.getElem_cons_succ, List.getElem_cons_zero, List.setIfInBounds_toArray, List.set_cons_succ, List.set_cons_zero])
    refine wpAnyH_take (i := 14) (v := ?_) rfl (by kernel_rfl) (by kernel_rfl) (by kernel_rfl) (fun _ _ _ h => h) (Or.inl ⟨by rfl, ?_⟩) hHeld ?_
    rotate_left
    · (intro wx hSx; obtain ⟨a0, a1, a2, a3, a4, a5⟩ := hSx.1.1; go_simp; (try with_reducible rfl))
    (try simp only [Act.put, List.getElem_toArray, List.getElem_cons_succ, List.getElem_cons_zero, List.setIfInBounds_toArray, List.set_cons_succ, List.set_cons_zero])
    refine wpAnyH_take (i := 15) (v := ?_) rfl (by kernel_rfl) (by kernel_rfl) (by kernel_rfl) (fun _ _ _ h => h) (Or.inl ⟨by rfl, ?_⟩) hHeld ?_
    rotate_left
    · (intro wx hSx; obtain ⟨a0, a1, a2, a3, a4, a5⟩ := hSx.1.1; go_simp; (try with_reducible rfl))
    (try simp only [Act.put, List.getElem_toArray, List.getElem_cons_succ, List.getElem_cons_zero, List.setIfInBounds_toArray, List.set_cons_succ, List.set_cons_zero])
    refine wpAnyH_take (i := 16) (v := undef) rfl (by kernel_rfl) (by kernel_rfl) (by kernel_rfl) (fun _ _ _ h => h) (Or.inr ⟨by rfl, rfl⟩) hHeld ?_
    (try simp only [Act.put, List.getElem_toArray, List.getElem_cons_succ, List.getElem_cons_zero, List.setIfInBounds_toArray, List.set_cons_succ, List.set_cons_zero])
    refine wpAnyH_take (i := 17) (v := undef) rfl (by kernel_rfl) (by kernel_rfl) (by kernel_rfl) (fun _ _ _ h => h) (Or.inr ⟨by rfl, rfl⟩) hHeld ?_
    (try simp only [Act.put, List.getElem_toArray, List.getElem_cons_succ, List.getElem_cons_zero, List.setIfInBounds_toArray, List.set_cons_succ, List.set_cons_zero])
    refine wpAnyH_take (i := 18) (v := undef) rfl (by kernel_rfl) (by kernel_rfl) (by kernel_rfl) (fun _ _ _ h => h) (Or.inr ⟨by rfl, rfl⟩) hHeld ?_
    (try simp only [Act.put, List.getElem_toArray, List.getElem_cons_succ, List.getElem_cons_zero, List.setIfInBounds_toArray, List.set_cons_succ, List.set_cons_zero])
    refine wpAnyH_take (i := 19) (v := undef) rfl (by kernel_rfl) (by kernel_rfl) (by kernel_rfl) (fun _ _ _ h => h) (Or.inr ⟨by rfl, rfl⟩) hHeld ?_
    (try simp only [Act.put, List.getElem_toArray, List.getElem_cons_succ, List.getElem_cons_zero, List.setIfInBounds_toArray, List.set_cons_succ, List.set_cons_zero])
    refine wpAnyH_take (i := 20) (v := undef) rfl (by kernel_rfl) (by kernel_rfl) (by kernel_rfl) (fun _ _ _ h => h) (Or.inr ⟨by rfl, rfl⟩) hHeld ?_
    (try simp only [Act.put, List.getElem_toArray, List.getElem_cons_succ, List.getElem_cons_zero, List.setIfInBounds_toArray, List.set_cons_succ, List.set_cons_zero])
    refine wpAnyH_take (i := 21) (v := undef) rfl (by kernel_rfl) (by kernel_rfl) (by kernel_rfl) (fun _ _ _ h => h) (Or.inr ⟨by rfl, rfl⟩) hHeld ?_
    (try simp only [Act.put, List.getElem_toArray, List.getElem_cons_succ, List.getElem_cons_zero, List.setIfInBounds_toArray, List.set_cons_succ, List.set_cons_zero])
    refine wpAnyH_take (i := 22) (v := ?_) rfl (by kernel_rfl) (by kernel_rfl) (by kernel_rfl) (fun _ _ _ h => h) (Or.inl ⟨by rfl, ?_⟩) hHeld ?_
    rotate_left
    · (intro wx hSx; obtain ⟨a0, a1, a2, a3, a4, a5⟩ := hSx.1.1; go_simp; (try with_reducible rfl))
    (try simp only [Act.put, List.getElem_toArray, List.getElem_cons_succ, List.getElem_cons_zero, List.setIfInBounds_toArray, List.set_cons_succ, List.set_cons_zero])
    refine wpAnyH_take (i := 23) (v := ?_) rfl (by kernel_rfl) (by kernel_rfl) (by kernel_rfl) (fun _ _ _ h => h) (Or.inl ⟨by rfl, ?_⟩) hHeld ?_
    rotate_left
    · (intro wx hSx; obtain ⟨a0, a1, a2, a3, a4, a5⟩ := hSx.1.1; go_simp; (try with_reducible rfl))
    (try simp only [Act.put, List.getElem_toArray, List.getElem_cons_succ, List.getElem_cons_zero, List.setIfInBounds_toArray, List.set_cons_succ, List.set_cons_zero])
    refine wpAnyH_take (i := 24) (v := ?_) rfl (by kernel_rfl) (by kernel_rfl) (by kernel_rfl) (fun _ _ _ h => h) (Or.inl ⟨by rfl, ?_⟩) hHeld ?_
    rotate_left
    · (intro wx hSx; obtain ⟨a0, a1, a2, a3, a4, a5⟩ := hSx.1.1; go_simp; (try with_reducible rfl))
    (try simp only [Act.put, List.getElem_toArray, List.getElem_cons_succ, List.getElem_cons_zero, List.setIfInBounds_toArray, List.set_cons_succ, List.set_cons_zero])
    refine wpAnyH_done (by kernel_rfl) ?_ _
    clear hHeld
    go_wp2
    go_ret
    exact ⟨rfl, HH.out.2⟩
  by_cases h3 : y.st = 3
  · have HGO : Hid (∀ W, YW w w4.heap.size ky y (.slice A5 y.buf.chs.length c5) W → Calls Try.prog 24 #[rcV y (.slice A5 y.buf.chs.length c5)] W fun e w' => e = .returned (.bool true) ∧ Below W.heap.size W w') := Lib.hid fun W h => by
      have h9 := HGY2.out A5 c5 W h.1.2.1.chs
      rw [decide_eq_true (show y.st = 3 ∨ y.st = 5 by omega)] at h9
      exact h9
    have d5 : (y.st == 5) = false := by simpa using h5
    have d3 : (y.st == 3) = true := by simpa using h3
    have n3 : (y.st != 3) = false := by simpa using h3
    have dn : (y.buf.next == y.fin) = true := by simpa using h3f h3
    clear h3f h5 HGY2 HIY2 HIS V9 Y9 B9 h3
    refine wp_region_held_drew (S := (YW w w4.heap.size ky y (.slice A5 y.buf.chs.length c5))) (by kernel_rfl) HH.out (fun hHeld => ?_)
    refine wpAnyH_take (i := 0) (v := ?_) rfl (by kernel_rfl) (by kernel_rfl) (by kernel_rfl) (fun _ _ _ h => h) (Or.inl ⟨by rfl, ?_⟩) hHeld ?_
    rotate_left
    · (intro wx hSx; obtain ⟨a0, a1, a2, a3, a4, a5⟩ := hSx.1.1; go_simp; (try with_reducible rfl))
    (try simp only [Act.put, List.getElem_toArray, List.getElem_cons_zero, List.setIfInBounds_toArray, List.set_cons_succ, List.set_cons_zero])
    refine wpAnyH_take (i := 2) (v := ?_) rfl (by kernel_rfl) (by kernel_rfl) (by kernel_rfl) (fun _ _ _ h => h) (Or.inl ⟨by rfl, ?_⟩) hHeld ?_
    rotate_left
    · (intro wx hSx; obtain ⟨a0, a1, a2, a3, a4, a5⟩ := hSx.1.1; go_simp; (try with_reducible rfl))
    (try simp only [Act.put, List.getElem_toArray, List.getElem_cons_succ, List.getElem_cons_zero, List.setIfInBounds_toArray, List.set_cons_succ, List.set_cons_zero])
    refine wpAnyH_take (i := 3) (v := ?_) rfl (by kernel_rfl) (by kernel_rfl) (by kernel_rfl) (fun _ _ _ h => h) (Or.inl ⟨by rfl, ?_⟩) hHeld ?_
    rotate_left
    · (intro wx hSx; obtain ⟨a0, a1, a2, a3, a4, a5⟩ := hSx.1.1; go_simp; (try with_reducible rfl))
    (try simp only [Act.put, List.getElem_toArray, List.getElem_cons_succ, List.getElem_cons_zero, List.setIfInBounds_toArray, List.set_cons_succ, List.set_cons_zero])
    refine wpAnyH_take (i := 4) (v := ?_) rfl (by kernel_rfl) (by kernel_rfl) (by kernel_rfl) (fun _ _ _ h => h) (Or.inl ⟨by rfl, ?_⟩) hHeld ?_
    rotate_left
    · (intro wx hSx; obtain ⟨a0, a1, a2, a3, a4, a5⟩ := hSx.1.1; go_simp; (try with_reducible rfl))
    (try simp only [Act.put, List.getElem_toArray, List.getElem_cons_succ, List.getElem_cons_zero, List.setIfInBounds_toArray, List.set_cons_succ, List.set_cons_zero])
    refine wpAnyH_ready (rs := [1]) (by kernel_rfl) (by simp) ?_
    refine AllReadyH.cons rfl (fun K hK => ?_) AllReadyH.nil
    rw [if_pos (by rfl)]
    go_simp
    refine (HGO.out _ HH.out).mono ?_
    rintro e w1 ⟨rfl, hb1⟩
    have HH := Lib.hid (HH.out.next hb1)
    (try simp only [])
    refine hK.out _ _ HH.out (fun hHeld => ?_)
    clear hb1
    clear hK K
    (try simp only [Act.put, List.getElem_toArray, List.getElem_cons_succ, List.getElem_cons_zero, List.setIfInBounds_toArray, List.set_cons_succ, List.set_cons_zero])
    refine wpAnyH_take (i := 5) (v := ?_) rfl (by kernel_rfl) (by kernel_rfl) (by kernel_rfl) (fun _ _ _ h => h) (Or.inl ⟨by rfl, ?_⟩) hHeld ?_
    rotate_left
    · (intro wx hSx; obtain ⟨a0, a1, a2, a3, a4, a5⟩ := hSx.1.1; go_simp; (try with_reducible rfl))
    (try simp only [Act.put, List.getElem_toArray, List.getElem_cons_succ, List.getElem_cons_zero, List.setIfInBounds_toArray, List.set_cons_succ, List.set_cons_zero])
    refine wpAnyH_take (i := 6) (v := ?_) rfl (by kernel_rfl) (by kernel_rfl) (by kernel_rfl) (fun _ _ _ h => h) (Or.inl ⟨by rfl, ?_⟩) hHeld ?_
    rotate_left
    · (intro wx hSx; obtain ⟨a0, a1, a2, a3, a4, a5⟩ := hSx.1.1; go_simp; (try with_reducible rfl))
    (try simp only [Act.put, List.getElem_toArray, List.getElem_cons_succ, List.getElem_cons_zero, List.setIfInBounds_toArray, List.set_cons_succ, List.set_cons_zero])
    refine wpAnyH_take (i := 7) (v := ?_) rfl (by kernel_rfl) (by kernel_rfl) (by kernel_rfl) (fun _ _ _ h => h) (Or.inl ⟨by rfl, ?_⟩) hHeld ?_
    rotate_left
    · (intro wx hSx; obtain ⟨a0, a1, a2, a3, a4, a5⟩ := hSx.1.1; go_simp; (try with_reducible rfl))
    (try simp only [Act.put, List.getElem_toArray, List.getElem_cons_succ, List.getElem_cons_zero, List.setIfInBounds_toArray, List.set_cons_succ, List.set_cons_zero])
    refine wpAnyH_take (i := 8) (v := ?_) rfl (by kernel_rfl) (by kernel_rfl) (by kernel_rfl) (fun _ _ _ h => h) (Or.inl ⟨by rfl, ?_⟩) hHeld ?_
    rotate_left
    · (intro wx hSx; obtain ⟨a0, a1, a2, a3, a4, a5⟩ := hSx.1.1; go_simp; (try with_reducible rfl))
    (try simp only [Act.put, List.getElem_toArray, List.getElem_cons_succ, List.getElem_cons_zero, List.setIfInBounds_toArray, List.set_cons_succ, List.set_cons_zero])
    refine wpAnyH_take (i := 9) (v := ?_) rfl (by kernel_rfl) (by kernel_rfl) (by kernel_rfl) (fun _ _ _ h => h) (Or.inl ⟨by rfl, ?_⟩) hHeld ?_
    rotate_left
    · (intro wx hSx; obtain ⟨a0, a1, a2, a3, a4, a5⟩ := hSx.1.1; go_simp; (try with_reducible rfl))
    (try simp only [Act.put, List.getElem_toArray, List.getElem_cons_succ, List.getElem_cons_zero, List.setIfInBounds_toArray, List.set_cons_succ, List.set_cons_zero])
    refine wpAnyH_take (i := 10) (v := ?_) rfl (by kernel_rfl) (by kernel_rfl) (by kernel_rfl) (fun _ _ _ h => h) (Or.inl ⟨by rfl, ?_⟩) hHeld ?_
    rotate_left
    · (intro wx hSx; obtain ⟨a0, a1, a2, a3, a4, a5⟩ := hSx.1.1; go_simp; (try with_reducible rfl))
    (try simp only [Act.put, List.getElem_toArray, List.getElem_cons_succ, List.getElem_cons_zero, List.setIfInBounds_toArray, List.set_cons_succ, List.set_cons_zero])
    refine wpAnyH_take (i := 11) (v := ?_) rfl (by kernel_rfl) (by kernel_rfl) (by kernel_rfl) (fun _ _ _ h => h) (Or.inl ⟨by rfl, ?_⟩) hHeld ?_
    rotate_left
    · (intro wx hSx; obtain ⟨a0, a1, a2, a3, a4, a5⟩ := hSx.1.1; go_simp; (try with_reducible rfl))
    (try simp only [Act.put, List.getElem_toArray, List.getElem_cons_succ, List.getElem_cons_zero, List.setIfInBounds_toArray, List.set_cons_succ, List.set_cons_zero])
    refine wpAnyH_take (i := 12) (v := ?_) rfl (by kernel_rfl) (by kernel_rfl) (by kernel_rfl) (fun _ _ _ h => h) (Or.inl ⟨by rfl, ?_⟩) hHeld ?_
    rotate_left
    · (intro wx hSx; obtain ⟨a0, a1, a2, a3, a4, a5⟩ := hSx.1.1; go_simp; (try with_reducible rfl))
    (try simp only [Act.put, List.getElem_toArray, List.getElem_cons_succ, List.getElem_cons_zero, List.setIfInBounds_toArray, List.set_cons_succ, List.set_cons_zero])
    refine wpAnyH_take (i := 13) (v := ?_) rfl (by kernel_rfl) (by kernel_rfl) (by kernel_rfl) (fun _ _ _ h => h) (Or.inl ⟨by rfl, ?_⟩) hHeld ?_
    rotate_left
    · (intro wx hSx; obtain ⟨a0, a1, a2, a3, a4, a5⟩ := hSx.1.1; go_simp; (try with_reducible rfl))
    (try simp only [Act.put, List.getElem_toArray, List.getElem_cons_succ, List.getElem_cons_zero, List.setIfInBounds_toArray, List.set_cons_succ, List.set_cons_zero])
    refine wpAnyH_take (i := 14) (v := ?_) rfl (by kernel_rfl) (by kernel_rfl) (by kernel_rfl) (fun _ _ _ h => h) (Or.inl ⟨by rfl, ?_⟩) hHeld ?_
    rotate_left
    · (intro wx hSx; obtain ⟨a0, a1, a2, a3, a4, a5⟩ := hSx.1.1; go_simp; (try with_reducible rfl))
    (try simp only [Act.put, List.getElem_toArray, List.getElem_cons_succ, List.getElem_cons_zero, List.setIfInBounds_toArray, List.set_cons_succ, List.set_cons_zero])
    refine wpAnyH_take (i := 15) (v := ?_) rfl (by kernel_rfl) (by kernel_rfl) (by kernel_rfl) (fun _ _ _ h => h) (Or.inl ⟨by rfl, ?_⟩) hHeld ?_
    rotate_left
    · (intro wx hSx; obtain ⟨a0, a1, a2, a3, a4, a5⟩ := hSx.1.1; go_simp; (try with_reducible rfl))
    (try simp only [Act.put, List.getElem_toArray, List.getElem_cons_succ, List.getElem_cons_zero, List.setIfInBounds_toArray, List.set_cons_succ, List.set_cons_zero])
    refine wpAnyH_take (i := 16) (v := ?_) rfl (by kernel_rfl) (by kernel_rfl) (by kernel_rfl) (fun _ _ _ h => h) (Or.inl ⟨by rfl, ?_⟩) hHeld ?_
    rotate_left
    · (intro wx hSx; obtain ⟨a0, a1, a2, a3, a4, a5⟩ := hSx.1.1; go_simp; (try with_reducible rfl))
    (try simp only [Act.put, List.getElem_toArray, List.getElem_cons_succ, List.getElem_cons_zero, List.setIfInBounds_toArray, List.set_cons_succ, List.set_cons_zero])
    refine wpAnyH_take (i := 17) (v := ?_) rfl (by kernel_rfl) (by kernel_rfl) (by kernel_rfl) (fun _ _ _ h => h) (Or.inl ⟨by rfl, ?_⟩) hHeld ?_
    rotate_left
    · (intro wx hSx; obtain ⟨a0, a1, a2, a3, a4, a5⟩ := hSx.1.1; go_simp; (try with_reducible rfl))
    (try simp only [Act.put, List.getElem_toArray, List.getElem_cons_succ, List.getElem_cons_zero, List.setIfInBounds_toArray, List.set_cons_succ, List.set_cons_zero])
    refine wpAnyH_take (i := 18) (v := ?_) rfl (by kernel_rfl) (by kernel_rfl) (by kernel_rfl) (fun _ _ _ h => h) (Or.inl ⟨by rfl, ?_⟩) hHeld ?_
    rotate_left
    · (intro wx hSx; obtain ⟨a0, a1, a2, a3, a4, a5⟩ := hSx.1.1; go_simp; (try with_reducible rfl))
    (try simp only [Act.put, List.getElem_toArray, List.getElem_cons_succ, List.getElem_cons_zero, List.setIfInBounds_toArray, List.set_cons_succ, List.set_cons_zero])
    refine wpAnyH_take (i := 19) (v := ?_) rfl (by kernel_rfl) (by kernel_rfl) (by kernel_rfl) (fun _ _ _ h => h) (Or.inl ⟨by rfl, ?_⟩) hHeld ?_
    rotate_left
    · (intro wx hSx; obtain ⟨a0, a1, a2, a3, a4, a5⟩ := hSx.1.1; go_simp; (try with_reducible rfl))
    (try simp only [Act.put, List.getElem_toArray, List.getElem_cons_succ, List.getElem_cons_zero, List.setIfInBounds_toArray, List.set_cons_succ, List.set_cons_zero])
    refine wpAnyH_take (i := 20) (v := ?_) rfl (by kernel_rfl) (by kernel_rfl) (by kernel_rfl) (fun _ _ _ h => h) (Or.inl ⟨by rfl, ?_⟩) hHeld ?_
    rotate_left
    · (intro wx hSx; obtain ⟨a0, a1, a2, a3, a4, a5⟩ := hSx.1.1; go_simp; (try with_reducible rfl))
    (try simp only [Act.put, List.getElem_toArray, List.getElem_cons_succ, List.getElem_cons_zero, List.setIfInBounds_toArray, List.set_cons_succ, List.set_cons_zero])
    refine wpAnyH_take (i := 21) (v := ?_) rfl (by kernel_rfl) (by kernel_rfl) (by kernel_rfl) (fun _ _ _ h => h) (Or.inl ⟨by rfl, ?_⟩) hHeld ?_
    rotate_left
    · (intro wx hSx; obtain ⟨a0, a1, a2, a3, a4, a5⟩ := hSx.1.1; go_simp; (try with_reducible rfl))
    (try simp only [Act.put, List.getElem_toArray, List.getElem_cons_succ, List.getElem_cons_zero, List.setIfInBounds_toArray, List.set_cons_succ, List.set_cons_zero])
    refine wpAnyH_take (i := 22) (v := ?_) rfl (by kernel_rfl) (by kernel_rfl) (by kernel_rfl) (fun _ _ _ h => h) (Or.inl ⟨by rfl, ?_⟩) hHeld ?_
    rotate_left
    · (intro wx hSx; obtain ⟨a0, a1, a2, a3, a4, a5⟩ := hSx.1.1; go_simp; (try with_reducible rfl))
    (try simp only [Act.put, List.getElem_toArray, List.getElem_cons_succ, List.getElem_cons_zero, List.setIfInBounds_toArray, List.set_cons_succ, List.set_cons_zero])
    refine wpAnyH_take (i := 23) (v := ?_) rfl (by kernel_rfl) (by kernel_rfl) (by kernel_rfl) (fun _ _ _ h => h) (Or.inl ⟨by rfl, ?_⟩) hHeld ?_
    rotate_left
    · (intro wx hSx; obtain ⟨a0, a1, a2, a3, a4, a5⟩ := hSx.1.1; go_simp; (try with_reducible rfl))
    (try simp only [Act.put, List.getElem_toArray, List.getElem_cons_succ, List.getElem_cons_zero, List.setIfInBounds_toArray, List.set_cons_succ, List.set_cons_zero])
    refine wpAnyH_take (i := 24) (v := ?_) rfl (by kernel_rfl) (by kernel_rfl) (by kernel_rfl) (fun _ _ _ h => h) (Or.inl ⟨by rfl, ?_⟩) hHeld ?_
    rotate_left
    · (intro wx hSx; obtain ⟨a0, a1, a2, a3, a4, a5⟩ := hSx.1.1; go_simp; (try with_reducible rfl))
    (try simp only [Act.put, List.getElem_toArray, List.getElem_cons_succ, List.getElem_cons_zero, List.setIfInBounds_toArray, List.set_cons_succ, List.set_cons_zero])
    refine wpAnyH_done (by kernel_rfl) ?_ _
    clear hHeld
    go_wp2
    go_ret
    exact ⟨rfl, HH.out.2⟩
  have HGO : Hid (∀ W, YW w w4.heap.size ky y (.slice A5 y.buf.chs.length c5) W → Calls Try.prog 24 #[rcV y (.slice A5 y.buf.chs.length c5)] W fun e w' => e = .returned (.bool false) ∧ Below W.heap.size W w') := Lib.hid fun W h => by
    have h9 := HGY2.out A5 c5 W h.1.2.1.chs
    rw [decide_eq_false (show ¬ (y.st = 3 ∨ y.st = 5) by omega)] at h9
    exact h9
  have d5 : (y.st == 5) = false := by simpa using h5
  have d3 : (y.st == 3) = false := by simpa using h3
  have n3 : (y.st != 3) = true := by simpa using h3
  clear h3f h5 HGY2 HIY2 HIS V9 Y9 B9 h3
  refine wp_region_held_drew (S := (YW w w4.heap.size ky y (.slice A5 y.buf.chs.length c5))) (by kernel_rfl) HH.out (fun hHeld => ?_)
  refine wpAnyH_take (i := 0) (v := ?_) rfl (by kernel_rfl) (by kernel_rfl) (by kernel_rfl) (fun _ _ _ h => h) (Or.inl ⟨by rfl, ?_⟩) hHeld ?_
  rotate_left
  · (intro wx hSx; obtain ⟨a0, a1, a2, a3, a4, a5⟩ := hSx.1.1; go_simp; (try with_reducible rfl))
  (try simp only [Act.put, List.getElem_toArray, List.getElem_cons_zero, List.setIfInBounds_toArray, List.set_cons_succ, List.set_cons_zero])
  refine wpAnyH_take (i := 2) (v := ?_) rfl (by kernel_rfl) (by kernel_rfl) (by kernel_rfl) (fun _ _ _ h => h) (Or.inl ⟨by rfl, ?_⟩) hHeld ?_
  rotate_left
  · (intro wx hSx; obtain ⟨a0, a1, a2, a3, a4, a5⟩ := hSx.1.1; go_simp; (try with_reducible rfl))
  (try simp only [Act.put, List.getElem_toArray, List.getElem_cons_succ, List.getElem_cons_zero, List.setIfInBounds_toArray, List.set_cons_succ, List.set_cons_zero])
  refine wpAnyH_take (i := 3) (v := ?_) rfl (by kernel_rfl) (by kernel_rfl) (by kernel_rfl) (fun _ _ _ h => h) (Or.inl ⟨by rfl, ?_⟩) hHeld ?_
  rotate_left
  · (intro wx hSx; obtain ⟨a0, a1, a2, a3, a4, a5⟩ := hSx.1.1; go_simp; (try with_reducible rfl))
  (try simp only [Act.put, List.getElem_toArray, List.getElem_cons_succ, List.getElem_cons_zero, List.setIfInBounds_toArray, List.set_cons_succ, List.set_cons_zero])
  refine wpAnyH_take (i := 4) (v := ?_) rfl (by kernel_rfl) (by kernel_rfl) (by kernel_rfl) (fun _ _ _ h => h) (Or.inl ⟨by rfl, ?_⟩) hHeld ?_
  rotate_left
  · (intro wx hSx; obtain ⟨a0, a1, a2, a3, a4, a5⟩ := hSx.1.1; go_simp; (try with_reducible rfl))
  (try simp only [Act.put, List.getElem_toArray, List.getElem_cons_succ, List.getElem_cons_zero, List.setIfInBounds_toArray, List.set_cons_succ, List.set_cons_zero])
  refine wpAnyH_ready (rs := [1]) (by kernel_rfl) (by simp) ?_
  refine AllReadyH.cons rfl (fun K hK => ?_) AllReadyH.nil
  rw [if_pos (by rfl)]
  go_simp
  refine (HGO.out _ HH.out).mono ?_
  rintro e w1 ⟨rfl, hb1⟩
  have HH := Lib.hid (HH.out.next hb1)
  (try simp only [])
  refine hK.out _ _ HH.out (fun hHeld => ?_)
  clear hb1
  clear hK K
  (try simp only [Act.put, List.getElem_toArray, List.getElem_cons_succ, List.getElem_cons_zero, List.setIfInBounds_toArray, List.set_cons_succ, List.set_cons_zero])
  refine wpAnyH_take (i := 5) (v := ?_) rfl (by kernel_rfl) (by kernel_rfl) (by kernel_rfl) (fun _ _ _ h => h) (Or.inl ⟨by rfl, ?_⟩) hHeld ?_
  rotate_left
  · (intro wx hSx; obtain ⟨a0, a1, a2, a3, a4, a5⟩ := hSx.1.1; go_simp; (try with_reducible rfl))
  (try simp only [Act.put, List.getElem_toArray, List.getElem_cons_succ, List.getElem_cons_zero, List.setIfInBounds_toArray, List.set_cons_succ, List.set_cons_zero])
  refine wpAnyH_take (i := 6) (v := ?_) rfl (by kernel_rfl) (by kernel_rfl) (by kernel_rfl) (fun _ _ _ h => h) (Or.inl ⟨by rfl, ?_⟩) hHeld ?_
  rotate_left
  · (intro wx hSx; obtain ⟨a0, a1, a2, a3, a4, a5⟩ := hSx.1.1; go_simp; (try with_reducible rfl))
  (try simp only [Act.put, List.getElem_toArray, List.getElem_cons_succ, List.getElem_cons_zero, List.setIfInBounds_toArray, List.set_cons_succ, List.set_cons_zero])
  refine wpAnyH_take (i := 7) (v := ?_) rfl (by kernel_rfl) (by kernel_rfl) (by kernel_rfl) (fun _ _ _ h => h) (Or.inl ⟨by rfl, ?_⟩) hHeld ?_
  rotate_left
  · (intro wx hSx; obtain ⟨a0, a1, a2, a3, a4, a5⟩ := hSx.1.1; go_simp; (try with_reducible rfl))
  (try simp only [Act.put, List.getElem_toArray, List.getElem_cons_succ, List.getElem_cons_zero, List.setIfInBounds_toArray, List.set_cons_succ, List.set_cons_zero])
  refine wpAnyH_take (i := 8) (v := ?_) rfl (by kernel_rfl) (by kernel_rfl) (by kernel_rfl) (fun _ _ _ h => h) (Or.inl ⟨by rfl, ?_⟩) hHeld ?_
  rotate_left
  · (intro wx hSx; obtain ⟨a0, a1, a2, a3, a4, a5⟩ := hSx.1.1; go_simp; (try with_reducible rfl))
  (try simp only [Act.put, List.getElem_toArray, List.getElem_cons_succ, List.getElem_cons_zero, List.setIfInBounds_toArray, List.set_cons_succ, List.set_cons_zero])
  refine wpAnyH_take (i := 9) (v := ?_) rfl (by kernel_rfl) (by kernel_rfl) (by kernel_rfl) (fun _ _ _ h => h) (Or.inl ⟨by rfl, ?_⟩) hHeld ?_
  rotate_left
  · (intro wx hSx; obtain ⟨a0, a1, a2, a3, a4, a5⟩ := hSx.1.1; go_simp; (try with_reducible rfl))
  (try simp only [Act.put, List.getElem_toArray, List.getElem_cons_succ, List.getElem_cons_zero, List.setIfInBounds_toArray, List.set_cons_succ, List.set_cons_zero])
  refine wpAnyH_take (i := 10) (v := ?_) rfl (by kernel_rfl) (by kernel_rfl) (by kernel_rfl) (fun _ _ _ h => h) (Or.inl ⟨by rfl, ?_⟩) hHeld ?_
  rotate_left
  · (intro wx hSx; obtain ⟨a0, a1, a2, a3, a4, a5⟩ := hSx.1.1; go_simp; (try with_reducible rfl))
  (try simp only [Act.put, List.getElem_toArray, List.getElem_cons_succ, List.getElem_cons_zero, List.setIfInBounds_toArray, List.set_cons_succ, List.set_cons_zero])
  refine wpAnyH_take (i := 11) (v := ?_) rfl (by kernel_rfl) (by kernel_rfl) (by kernel_rfl) (fun _ _ _ h => h) (Or.inl ⟨by rfl, ?_⟩) hHeld ?_
  rotate_left
  · (intro wx hSx; obtain ⟨a0, a1, a2, a3, a4, a5⟩ := hSx.1.1; go_simp; (try with_reducible rfl))
  (try simp only [Act.put, List.getElem_toArray, List.getElem_cons_succ, List.getElem_cons_zero, List.setIfInBounds_toArray, List.set_cons_succ, List.set_cons_zero])
  refine wpAnyH_take (i := 12) (v := ?_) rfl (by kernel_rfl) (by kernel_rfl) (by kernel_rfl) (fun _ _ _ h => h) (Or.inl ⟨by rfl, ?_⟩) hHeld ?_
  rotate_left
  · (intro wx hSx; obtain ⟨a0, a1, a2, a3, a4, a5⟩ := hSx.1.1; go_simp; (try with_reducible rfl))
  (try simp only [Act.put, List.getElem_toArray, List.getElem_cons_succ, List.getElem_cons_zero, List.setIfInBounds_toArray, List.set_cons_succ, List.set_cons_zero])
  refine wpAnyH_take (i := 13) (v := ?_) rfl (by kernel_rfl) (by kernel_rfl) (by kernel_rfl) (fun _ _ _ h => h) (Or.inl ⟨by rfl, ?_⟩) hHeld ?_
  rotate_left
  · (intro wx hSx; obtain ⟨a0, a1, a2, a3, a4, a5⟩ := hSx.1.1; go_simp; (try with_reducible rfl))
  (try simp only [Act.put, List.getElem_toArray, List.getElem_cons_succ, List.getElem_cons_zero, List.setIfInBounds_toArray, List.set_cons_succ, List.set_cons_zero])
  refine wpAnyH_take (i := 14) (v := ?_) rfl (by kernel_rfl) (by kernel_rfl) (by kernel_rfl) (fun _ _ _ h => h) (Or.inl ⟨by rfl, ?_⟩) hHeld ?_
  rotate_left
  · (intro wx hSx; obtain ⟨a0, a1, a2, a3, a4, a5⟩ := hSx.1.1; go_simp; (try with_reducible rfl))
  (try simp only [Act.put, List.getElem_toArray, List.getElem_cons_succ, List.getElem_cons_zero, List.setIfInBounds_toArray, List.set_cons_succ, List.set_cons_zero])
  refine wpAnyH_take (i := 15) (v := ?_) rfl (by kernel_rfl) (by kernel_rfl) (by kernel_rfl) (fun _ _ _ h => h) (Or.inl ⟨by rfl, ?_⟩) hHeld ?_
  rotate_left
  · (intro wx hSx; obtain ⟨a0, a1, a2, a3, a4, a5⟩ := hSx.1.1; go_simp; (try with_reducible rfl))
  (try simp only [Act.put, List.getElem_toArray, List.getElem_cons_succ, List.getElem_cons_zero, List.setIfInBounds_toArray, List.set_cons_succ, List.set_cons_zero])
  refine wpAnyH_take (i := 16) (v := undef) rfl (by kernel_rfl) (by kernel_rfl) (by kernel_rfl) (fun _ _ _ h => h) (Or.inr ⟨by rfl, rfl⟩) hHeld ?_
  (try simp only [Act.put, List.getElem_toArray, List.getElem_cons_succ, List.getElem_cons_zero, List.setIfInBounds_toArray, List.set_cons_succ, List.set_cons_zero])
  refine wpAnyH_take (i := 17) (v := undef) rfl (by kernel_rfl) (by kernel_rfl) (by kernel_rfl) (fun _ _ _ h => h) (Or.inr ⟨by rfl, rfl⟩) hHeld ?_
  (try simp only [Act.put, List.getElem_toArray, List.getElem_cons_succ, List.getElem_cons_zero, List.setIfInBounds_toArray, List.set_cons_succ, List.set_cons_zero])
  refine wpAnyH_take (i := 18) (v := undef) rfl (by kernel_rfl) (by kernel_rfl) (by kernel_rfl) (fun _ _ _ h => h) (Or.inr ⟨by rfl, rfl⟩) hHeld ?_
  (try simp only [Act.put, List.getElem_toArray, List.getElem_cons_succ, List.getElem_cons_zero, List.setIfInBounds_toArray, List.set_cons_succ, List.set_cons_zero])
  refine wpAnyH_take (i := 19) (v := undef) rfl (by kernel_rfl) (by kernel_rfl) (by kernel_rfl) (fun _ _ _ h => h) (Or.inr ⟨by rfl, rfl⟩) hHeld ?_
  (try simp only [Act.put, List.getElem_toArray, List.getElem_cons_succ, List.getElem_cons_zero, List.setIfInBounds_toArray, List.set_cons_succ, List.set_cons_zero])
  refine wpAnyH_take (i := 20) (v := undef) rfl (by kernel_rfl) (by kernel_rfl) (by kernel_rfl) (fun _ _ _ h => h) (Or.inr ⟨by rfl, rfl⟩) hHeld ?_
  (try simp only [Act.put, List.getElem_toArray, List.getElem_cons_succ, List.getElem_cons_zero, List.setIfInBounds_toArray, List.set_cons_succ, List.set_cons_zero])
  refine wpAnyH_take (i := 21) (v := undef) rfl (by kernel_rfl) (by kernel_rfl) (by kernel_rfl) (fun _ _ _ h => h) (Or.inr ⟨by rfl, rfl⟩) hHeld ?_
  (try simp only [Act.put, List.getElem_toArray, List.getElem_cons_succ, List.getElem_cons_zero, List.setIfInBounds_toArray, List.set_cons_succ, List.set_cons_zero])
  refine wpAnyH_take (i := 22) (v := ?_) rfl (by kernel_rfl) (by kernel_rfl) (by kernel_rfl) (fun _ _ _ h => h) (Or.inl ⟨by rfl, ?_⟩) hHeld ?_
  rotate_left
  · (intro wx hSx; obtain ⟨a0, a1, a2, a3, a4, a5⟩ := hSx.1.1; go_simp; (try with_reducible rfl))
  (try simp only [Act.put, List.getElem_toArray, List.getElem_cons_succ, List.getElem_cons_zero, List.setIfInBounds_toArray, List.set_cons_succ, List.set_cons_zero])
  refine wpAnyH_take (i := 23) (v := ?_) rfl (by kernel_rfl) (by kernel_rfl) (by kernel_rfl) (fun _ _ _ h => h) (Or.inl ⟨by rfl, ?_⟩) hHeld ?_
  rotate_left
  · (intro wx hSx; obtain ⟨a0, a1, a2, a3, a4, a5⟩ := hSx.1.1; go_simp; (try with_reducible rfl))
  (try simp only [Act.put, List.getElem_toArray, List.getElem_cons_succ, List.getElem_cons_zero, List.setIfInBounds_toArray, List.set_cons_succ, List.set_cons_zero])
  refine wpAnyH_take (i := 24) (v := ?_) rfl (by kernel_rfl) (by kernel_rfl) (by kernel_rfl) (fun _ _ _ h => h) (Or.inl ⟨by rfl, ?_⟩) hHeld ?_
  rotate_left
  · (intro wx hSx; obtain ⟨a0, a1, a2, a3, a4, a5⟩ := hSx.1.1; go_simp; (try with_reducible rfl))
  (try simp only [Act.put, List.getElem_toArray, List.getElem_cons_succ, List.getElem_cons_zero, List.setIfInBounds_toArray, List.set_cons_succ, List.set_cons_zero])
  refine wpAnyH_done (by kernel_rfl) ?_ _
  clear hHeld
  go_wp2
  go_ret
  exact ⟨rfl, HH.out.2⟩
end Go.Proofs.Ytmmoedhfeaokgaa
