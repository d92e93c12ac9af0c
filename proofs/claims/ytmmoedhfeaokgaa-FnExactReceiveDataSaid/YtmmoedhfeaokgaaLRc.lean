/-
  What the laws' words on receivers return: szReceiver, toReceiver, eqReceiver, markReceiver, heldReceiver.
-/
import Derived.Test.YtmmoedhfeaokgaaRcV
namespace Go.Proofs.Ytmmoedhfeaokgaa
open Go.RowKit Go.Deep Go.Proofs.Ytmmoedhfeaokgaa.Num

set_option maxRecDepth 100000 in
/-- laws.szReceiver -/
theorem lszr (N : Int) (hN0 : 0 ≤ N) (hN1 : N ≤ 1048576) (r : Rc) (A : Option Addr) (cap B : Nat) (w : World) (hB : B ≤ w.heap.size) (hr : Chs w B A r.buf.chs) (hn : r.buf.chs.length ≤ 9223372036854775807) (hs : ∀ c ∈ r.buf.chs, c.data.size ≤ 9223372036854775807) :
    Calls Try.prog 30 #[rcV r (.slice A r.buf.chs.length cap), .int .i64 N] w fun e w' => e = .returned (.int .i64 (szB N r.buf)) ∧ Below w.heap.size w w' := by
  have HZ : Hid (∀ W, w.heap.size ≤ W.heap.size → Below w.heap.size w W → Calls Try.prog 61 #[bfV r.buf.next (.slice A r.buf.chs.length cap), .int .i64 N] W fun e w' => e = .returned (.int .i64 (szB N r.buf)) ∧ Below W.heap.size W w') := Lib.hid fun W h1 h2 => lszb N hN0 hN1 r.buf A cap B W (Nat.le_trans hB h1) (hr.below hB h2) hn hs
  have hlow := (szB_low N r.buf hN1).1
  have HB0 := Lib.hid ((Below.refl w.heap.size w).alloc (Nat.le_refl _) (.cells (rcC r.st r.buf.next (.slice A r.buf.chs.length cap) r.fin r.hi r.code) 45))
  generalize szB N r.buf = m at *
  clear hr hs
  by_cases h : m < 0
  · obtain rfl : m = -1 := by omega
    clear h hlow
    go_enter Try.func30, Try.ntmps30
    go_wp2_with fail
    refine (HZ.out _ HB0.out.size HB0.out).mono ?_
    rintro e w1 ⟨rfl, hb1⟩
    have HB1 := Lib.hid (HB0.out.trans (hb1.mono HB0.out.size))
    clear hb1
    go_wp2
    go_ret
    exact ⟨rfl, HB1.out⟩
  · have hd : decide (m < 0) = false := decide_eq_false h
    clear h hlow
    go_enter Try.func30, Try.ntmps30
    go_wp2_with fail
    refine (HZ.out _ HB0.out.size HB0.out).mono ?_
    rintro e w1 ⟨rfl, hb1⟩
    have HB1 := Lib.hid (HB0.out.trans (hb1.mono HB0.out.size))
    clear hb1
    go_wp2
    go_ret
    exact ⟨rfl, HB1.out⟩

set_option maxRecDepth 100000 in
/-- laws.eqReceiver, of two receivers that hold the same. -/
theorem eqrc (r : Rc) (A A' : Option Addr) (cap cap' B : Nat) (w : World) (hB : B ≤ w.heap.size) (hr : Chs w B A r.buf.chs) (hr' : Chs w B A' r.buf.chs) (hn : r.buf.chs.length ≤ 1000000000) :
    Calls Try.prog 27 #[rcV r (.slice A r.buf.chs.length cap), rcV r (.slice A' r.buf.chs.length cap')] w fun e w' => e = .returned (.bool true) ∧ Below w.heap.size w w' := by
  obtain ⟨s, ⟨n, l⟩, f, h, c⟩ := r
  dsimp only at *
  have HE : Hid (∀ W, w.heap.size ≤ W.heap.size → Below w.heap.size w W → Calls Try.prog 58 #[bfV n (.slice A l.length cap), bfV n (.slice A' l.length cap')] W fun e w' => e = .returned (.bool true) ∧ Below W.heap.size W w') := Lib.hid fun W h1 h2 => eqbuf n l A A' cap cap' B W (Nat.le_trans hB h1) (hr.below hB h2) (hr'.below hB h2) hn
  have HB0 := Lib.hid (((Below.refl w.heap.size w).alloc (Nat.le_refl _) (.cells (rcC s n (.slice A l.length cap) f h c) 28)).alloc (by simp) (.cells (rcC s n (.slice A' l.length cap') f h c) 28))
  have e1 := eqbuf_aux s
  have e2 := eqbuf_aux f
  have e3 := eqbuf_aux h
  have e4 := eqbuf_aux c
  have hz : (w.alloc (.cells (rcC s n (.slice A l.length cap) f h c) 28)).heap.size = w.heap.size + 1 := by simp
  have C1 := ((BoxR.new w s n (.slice A l.length cap) f h c).alloc (.cells (rcC s n (.slice A' l.length cap') f h c) 28))
  have C2 := BoxR.new (w.alloc (.cells (rcC s n (.slice A l.length cap) f h c) 28)) s n (.slice A' l.length cap') f h c
  rw [hz] at C2
  have HC1 := Lib.hid C1
  have HC2 := Lib.hid C2
  have hz2 : ((w.alloc (.cells (rcC s n (.slice A l.length cap) f h c) 28)).alloc (.cells (rcC s n (.slice A' l.length cap') f h c) 28)).heap.size = w.heap.size + 1 + 1 := by simp
  have HZ2 := Lib.hid hz2
  clear hr hr' C1 C2 hz hz2
  go_enter Try.func27, Try.ntmps27
  go_upto_region 1 with fail
  generalize (w.alloc (.cells (rcC s n (.slice A l.length cap) f h c) 28)).alloc (.cells (rcC s n (.slice A' l.length cap') f h c) 28) = w2 at *
  obtain ⟨a0, a1, a2, a3, a4, a5⟩ := HC1.out.cells
  obtain ⟨b0, b1, b2, b3, b4, b5⟩ := HC2.out.cells
  go_wp2_with fail
  refine (HE.out w2 HB0.out.size HB0.out).mono ?_
  rintro e w3 ⟨rfl, hb3⟩
  have HB3 := Lib.hid (HB0.out.trans (hb3.mono HB0.out.size))
  obtain ⟨c0, c1, c2, c3, c4, c5⟩ := (HC1.out.below hb3 (by have := HZ2.out; omega)).cells
  obtain ⟨d0, d1, d2, d3, d4, d5⟩ := (HC2.out.below hb3 (by have := HZ2.out; omega)).cells
  clear hb3 a0 a1 a2 a3 a4 a5 b0 b1 b2 b3 b4 b5
  go_wp2
  go_ret
  exact ⟨rfl, HB3.out⟩

set_option maxRecDepth 100000 in
/-- laws.markReceiver, on a receiver of the call's own. -/
theorem markrc (r : Rc) (v : Value) (base : Nat) (w : World) (ho : OwnX w base v r.buf.chs) (hbs : base ≤ w.heap.size) (hn : r.buf.chs.length ≤ 10000000) :
    Calls Try.prog 28 #[rcV r v, .int .i64 1] w fun e w' => e = .returned (.int .i64 ((1 + 2 * r.buf.chs.length : Nat) : Int)) ∧ OwnX w' base v (marksC 1 r.buf.chs.length) ∧ Below base w w' ∧ w.grownBy w' v.ownBlock := by
  have HB0 := Lib.hid ((Below.refl base w).alloc hbs (.cells (rcC r.st r.buf.next v r.fin r.hi r.code) 28))
  have HO := Lib.hid (markbuf r.buf.next r.buf.chs v base _ (ho.alloc (.cells (rcC r.st r.buf.next v r.fin r.hi r.code) 28)) (by have := HB0.out.size; simp at this ⊢; omega) hn)
  clear ho
  go_enter Try.func28, Try.ntmps28
  go_wp2_with fail
  refine HO.out.mono ?_
  rintro e w1 ⟨rfl, ho1, hb1, hg1⟩
  have HB1 := Lib.hid (HB0.out.trans hb1)
  have HG1 := Lib.hid (only_first hg1)
  have HO1 := Lib.hid ho1
  clear hb1 ho1 hg1 HO
  go_wp2
  go_ret
  exact ⟨rfl, HO1.out, HB1.out, HG1.out⟩

set_option maxRecDepth 100000 in
/-- laws.heldReceiver, of a receiver that holds the marks. -/
theorem heldrc (r : Rc) (k : Nat) (A : Option Addr) (cap B : Nat) (w : World) (hB : B ≤ w.heap.size) (hr : Chs w B A (marksC 1 k)) (hn : k ≤ 10000000) :
    Calls Try.prog 29 #[rcV r (.slice A k cap), .int .i64 1] w fun e w' => e = .returned (.int .i64 ((1 + 2 * k : Nat) : Int)) ∧ Below w.heap.size w w' := by
  have HB0 := Lib.hid ((Below.refl w.heap.size w).alloc (Nat.le_refl _) (.cells (rcC r.st r.buf.next (.slice A k cap) r.fin r.hi r.code) 28))
  have HO := Lib.hid (heldbuf r.buf.next k A cap B _ (Nat.le_trans hB HB0.out.size) (hr.below hB HB0.out) hn)
  obtain ⟨m, hm⟩ : ∃ m : Int, ((1 + 2 * k : Nat) : Int) = m := ⟨_, rfl⟩
  have hd : decide (m < 0) = false := decide_eq_false (by omega)
  rw [hm] at HO
  rw [hm]
  clear hr hm
  go_enter Try.func29, Try.ntmps29
  go_wp2_with fail
  refine HO.out.mono ?_
  rintro e w1 ⟨rfl, hb1⟩
  have HB1 := Lib.hid (HB0.out.trans (hb1.mono HB0.out.size))
  clear hb1 HO
  go_wp2
  go_ret
  exact ⟨rfl, HB1.out⟩

set_option maxRecDepth 100000 in
set_option maxHeartbeats 1000000 in
/-- laws.toReceiver: a copy, in new blocks. -/
theorem torc (r : Rc) (A : Option Addr) (cap B : Nat) (w : World) (hB : B ≤ w.heap.size) (hr : Chs w B A r.buf.chs) (hn : r.buf.chs.length ≤ 1048576) :
    Calls Try.prog 31 #[rcV r (.slice A r.buf.chs.length cap)] w fun e w' => ∃ g, e = .returned (rcV r (.slice (some ⟨g, 0, none⟩) r.buf.chs.length r.buf.chs.length)) ∧ RowC w' w.heap.size g r.buf.chs.length r.buf.chs.length r.buf.chs ∧ Below w.heap.size w w' := by
  obtain ⟨s, ⟨n, l⟩, f, h, c⟩ := r
  dsimp only at *
  have HR := Lib.hid hr
  clear hr
  have HT : Hid (∀ W, w.heap.size ≤ W.heap.size → Below w.heap.size w W → Calls Try.prog 62 #[bfV n (.slice A l.length cap)] W fun e w' => e = .returned (bfV n (.slice (some ⟨W.heap.size + 1 + 1 + 1, 0, none⟩) l.length l.length)) ∧ RowC w' W.heap.size (W.heap.size + 1 + 1 + 1) l.length l.length l ∧ Below W.heap.size W w') := Lib.hid fun W h1 h2 => tobuf n l A cap B W (Nat.le_trans hB h1) (HR.out.below hB h2) hn
  have s1 : ∀ o1, (w.alloc o1).heap.size = w.heap.size + 1 := fun _ => by simp
  have s2 : ∀ o1 o2, ((w.alloc o1).alloc o2).heap.size = w.heap.size + 1 + 1 := fun _ _ => by simp
  have s3 : ∀ o1 o2 o3, (((w.alloc o1).alloc o2).alloc o3).heap.size = w.heap.size + 1 + 1 + 1 := fun _ _ _ => by simp
  have HB3 := Lib.hid ((((Below.refl w.heap.size w).alloc (Nat.le_refl _) (.cells (rcC s n (.slice A l.length cap) f h c) 45)).alloc (by simp) (.cells (rcC 0 0 (.slice none 0 0) 0 0 0) 28)).alloc (by simp; omega) (.cells (rcC s 0 (.slice none 0 0) 0 0 0) 28))
  have X0 := ((Cell6.new w s n (.slice A l.length cap) f h c 45).below ((Below.refl (w.heap.size + 1) _).alloc (by simp) (.cells (rcC 0 0 (.slice none 0 0) 0 0 0) 28)) (Nat.lt_succ_self _)).below ((Below.refl (w.heap.size + 1) _).alloc (by simp) (.cells (rcC s 0 (.slice none 0 0) 0 0 0) 28)) (Nat.lt_succ_self _)
  have X1 := ((BoxR.new (w.alloc (.cells (rcC s n (.slice A l.length cap) f h c) 45)) 0 0 (.slice none 0 0) 0 0 0).alloc (.cells (rcC s 0 (.slice none 0 0) 0 0 0) 28))
  have X2 := BoxR.new ((w.alloc (.cells (rcC s n (.slice A l.length cap) f h c) 45)).alloc (.cells (rcC 0 0 (.slice none 0 0) 0 0 0) 28)) s 0 (.slice none 0 0) 0 0 0
  rw [s1] at X1
  rw [s2] at X2
  have HX0 := Lib.hid X0
  have HX := Lib.hid (And.intro X1 X2)
  have HS := Lib.hid (s3 (.cells (rcC s n (.slice A l.length cap) f h c) 45) (.cells (rcC 0 0 (.slice none 0 0) 0 0 0) 28) (.cells (rcC s 0 (.slice none 0 0) 0 0 0) 28))
  clear X0 X1 X2 s1 s2 s3
  go_enter Try.func31, Try.ntmps31
  go_wp2_with fail
  generalize (((w.alloc (.cells (rcC s n (.slice A l.length cap) f h c) 45)).alloc (.cells (rcC 0 0 (.slice none 0 0) 0 0 0) 28)).alloc (.cells (rcC s 0 (.slice none 0 0) 0 0 0) 28)) = w3 at *
  refine (HT.out w3 HB3.out.size HB3.out).mono ?_
  rw [HS.out]
  rintro e w4 ⟨rfl, ho, hb⟩
  have HO := Lib.hid ho
  have HB4 := Lib.hid (HB3.out.trans (hb.mono (by have := HS.out; omega)))
  have Y1 := HX.out.1.below hb (by omega)
  have Y2 := HX.out.2.below hb (by omega)
  obtain ⟨a0, a1, a2, a3, a4, a5⟩ := HX0.out.below hb (by omega)
  have HY := Lib.hid (And.intro Y1 Y2)
  obtain ⟨q0, q1, q2, q3, q4, q5⟩ := Y1.cells
  obtain ⟨p0, p1, p2, p3, p4, p5⟩ := Y2.cells
  have f1 := Y1.free
  have f2 := Y2.free
  clear ho hb HT HR Y1 Y2 HX HX0 HB3
  generalize w.heap.size + 1 + 1 + 1 + 1 + 1 + 1 = g at *
  go_wp2
  refine bodyPost_ret (results_cell_row rfl _ _ (w.heap.size + 1) _ _ _ _ rfl (((((((((((HY.out.1.other (w.heap.size + 1 + 1) 1 _ (by omega)).other (w.heap.size + 1 + 1) 2 _ (by omega)).other (w.heap.size + 1 + 1) 3 _ (by omega)).other (w.heap.size + 1 + 1) 4 _ (by omega)).other (w.heap.size + 1 + 1) 5 _ (by omega)).set0 s).set1 n).set2 _).set3 f).set4 h).set5 c) Try.underlying28 rfl (by kernel_rfl)) rfl ?_
  exact ⟨g, rfl, (((((((((((HO.out.other (w.heap.size + 1 + 1) 1 _ (by omega)).other (w.heap.size + 1 + 1) 2 _ (by omega)).other (w.heap.size + 1 + 1) 3 _ (by omega)).other (w.heap.size + 1 + 1) 4 _ (by omega)).other (w.heap.size + 1 + 1) 5 _ (by omega)).other (w.heap.size + 1) 0 _ (by omega)).other (w.heap.size + 1) 1 _ (by omega)).other (w.heap.size + 1) 2 _ (by omega)).other (w.heap.size + 1) 3 _ (by omega)).other (w.heap.size + 1) 4 _ (by omega)).other (w.heap.size + 1) 5 _ (by omega)).weaken (by omega), (((((((((((HB4.out.setCell (p := ⟨_, _, _⟩) (by show w.heap.size ≤ w.heap.size + 1 + 1; omega) _).setCell (p := ⟨_, _, _⟩) (by show w.heap.size ≤ w.heap.size + 1 + 1; omega) _).setCell (p := ⟨_, _, _⟩) (by show w.heap.size ≤ w.heap.size + 1 + 1; omega) _).setCell (p := ⟨_, _, _⟩) (by show w.heap.size ≤ w.heap.size + 1 + 1; omega) _).setCell (p := ⟨_, _, _⟩) (by show w.heap.size ≤ w.heap.size + 1 + 1; omega) _).setCell (p := ⟨_, _, _⟩) (by show w.heap.size ≤ w.heap.size + 1; omega) _).setCell (p := ⟨_, _, _⟩) (by show w.heap.size ≤ w.heap.size + 1; omega) _).setCell (p := ⟨_, _, _⟩) (by show w.heap.size ≤ w.heap.size + 1; omega) _).setCell (p := ⟨_, _, _⟩) (by show w.heap.size ≤ w.heap.size + 1; omega) _).setCell (p := ⟨_, _, _⟩) (by show w.heap.size ≤ w.heap.size + 1; omega) _).setCell (p := ⟨_, _, _⟩) (by show w.heap.size ≤ w.heap.size + 1; omega) _)⟩

/-- laws.toReceiver of the receiver that came in. -/
theorem InRc.to {w0 : World} {g : Nat} {r : Rc} {A : Option Addr} {cap : Nat} {W : World} (h : InRc w0 g r A cap W) (hn : r.buf.chs.length ≤ 1048576) :
    Calls Try.prog 31 #[rcV r (.slice A r.buf.chs.length cap)] W fun e w' => ∃ g, e = .returned (rcV r (.slice (some ⟨g, 0, none⟩) r.buf.chs.length r.buf.chs.length)) ∧ RowC w' W.heap.size g r.buf.chs.length r.buf.chs.length r.buf.chs ∧ Below W.heap.size W w' :=
  torc r A cap g W (Nat.le_of_lt h.2.2.1) h.2.1 hn
/-- laws.eqReceiver of two variables that hold the same. -/
theorem eqvr (r : Rc) (A A' : Option Addr) (cap cap' B B' : Nat) (W : World) (h : OwnX W B (.slice A r.buf.chs.length cap) r.buf.chs) (h' : OwnX W B' (.slice A' r.buf.chs.length cap') r.buf.chs) (hn : r.buf.chs.length ≤ 1000000000) :
    Calls Try.prog 27 #[rcV r (.slice A r.buf.chs.length cap), rcV r (.slice A' r.buf.chs.length cap')] W fun e w' => e = .returned (.bool true) ∧ Below W.heap.size W w' :=
  eqrc r A A' cap cap' W.heap.size W (Nat.le_refl _) h.chs h'.chs hn
end Go.Proofs.Ytmmoedhfeaokgaa
