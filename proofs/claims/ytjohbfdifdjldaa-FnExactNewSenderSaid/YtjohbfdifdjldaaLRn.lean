/-
  What the laws' words on rings return: szRing, toRing, eqRing, markRing, heldRing.
-/
import Derived.Test.YtjohbfdifdjldaaRnV
import Derived.Test.YtjohbfdifdjldaaKInts
import Derived.Deep.DeepCutAuto
import Derived.Deep.CutBlock
import Derived.BigQuiet
import Derived.Deep.QuietTactic
import Derived.Deep.RegionHeld3
import Derived.Deep.RegionLaw
namespace Go.Proofs.Ytjohbfdifdjldaa
open Go.RowKit Go.Deep Go.Proofs.Ytjohbfdifdjldaa.Num

theorem bne_int (x : Int) : (x != x) = false := by simp
theorem bne_bool (x : Bool) : (x != x) = false := by cases x <;> rfl
set_option maxRecDepth 100000 in
/-- laws.szRing -/
theorem lszn (N : Int) (hN0 : 0 ≤ N) (hN1 : N ≤ 1048576) (r : Rn) (A : Option Addr) (cap B : Nat) (w : World) (_hB : B ≤ w.heap.size) (_hr : Ints w B A r.cs) (hn : r.cs.length ≤ 9223372036854775807) :
    Calls Try.prog 22 #[rnV r (.slice A r.cs.length cap), .int .i64 N] w fun e w' => e = .returned (.int .i64 (szI N r.cs)) ∧ Below w.heap.size w w' := by
  have HZ := Lib.hid fun W => lszi N hN0 hN1 r.cs A cap W hn
  have hlow := (szI_low N r.cs hN1).1
  have HB0 := Lib.hid ((Below.refl w.heap.size w).alloc (Nat.le_refl _) (.cells (rnC r.size r.base r.en (.slice A r.cs.length cap)) 33))
  generalize szI N r.cs = m at *
  clear hn hN0 hN1
  by_cases h : m < 0
  · obtain rfl : m = -1 := by omega
    clear h hlow
    go_enter Try.func22, Try.ntmps22
    go_wp2_with fail
    refine (HZ.out _).mono ?_
    rintro e w1 ⟨rfl, rfl⟩
    go_wp2
    go_ret
    exact ⟨rfl, HB0.out⟩
  · have hd : decide (m < 0) = false := decide_eq_false h
    clear h hlow
    go_enter Try.func22, Try.ntmps22
    go_wp2_with fail
    refine (HZ.out _).mono ?_
    rintro e w1 ⟨rfl, rfl⟩
    go_wp2
    go_ret
    exact ⟨rfl, HB0.out⟩

set_option maxRecDepth 100000 in
/-- laws.eqRing, of two rings that hold the same. -/
theorem eqrn (r : Rn) (A A' : Option Addr) (cap cap' B : Nat) (w : World) (hB : B ≤ w.heap.size) (hr : Ints w B A r.cs) (hr' : Ints w B A' r.cs) (hn : r.cs.length ≤ 1000000000) :
    Calls Try.prog 16 #[rnV r (.slice A r.cs.length cap), rnV r (.slice A' r.cs.length cap')] w fun e w' => e = .returned (.bool true) ∧ Below w.heap.size w w' := by
  obtain ⟨s, b, e, l⟩ := r
  dsimp only at *
  have HE : Hid (∀ W, w.heap.size ≤ W.heap.size → Below w.heap.size w W → Calls Try.prog 44 #[.slice A l.length cap, .slice A' l.length cap'] W fun e w' => e = .returned (.bool true) ∧ Below W.heap.size W w') := Lib.hid fun W h1 h2 => eqints l A A' cap cap' B W (Nat.le_trans hB h1) (hr.below hB h2) (hr'.below hB h2) (by omega)
  have HB0 := Lib.hid (((Below.refl w.heap.size w).alloc (Nat.le_refl _) (.cells (rnC s b e (.slice A l.length cap)) 24)).alloc (by simp) (.cells (rnC s b e (.slice A' l.length cap')) 24))
  have e1 := bne_int s
  have e2 := bne_int b
  have e3 := bne_int e
  clear hr hr'
  go_enter Try.func16, Try.ntmps16
  go_wp2_with fail
  refine (HE.out _ HB0.out.size HB0.out).mono ?_
  rintro e w3 ⟨rfl, hb3⟩
  have HB3 := Lib.hid (HB0.out.trans (hb3.mono HB0.out.size))
  clear hb3
  go_wp2
  go_ret
  exact ⟨rfl, HB3.out⟩

set_option maxRecDepth 100000 in
/-- laws.markRing, on a ring of the call's own. -/
theorem markrn (r : Rn) (v : Value) (base : Nat) (w : World) (ho : OwnK w base v r.cs) (hbs : base ≤ w.heap.size) (hn : r.cs.length ≤ 10000000) :
    Calls Try.prog 18 #[rnV r v, .int .i64 1] w fun e w' => e = .returned (.int .i64 (1 + (r.cs.length : Int))) ∧ OwnK w' base v (marks 1 r.cs.length) ∧ Below base w w' ∧ w.grownBy w' v.ownBlock := by
  have HB0 := Lib.hid ((Below.refl base w).alloc hbs (.cells (rnC r.size r.base r.en v) 24))
  have HO := Lib.hid (markO r.cs v base _ (ho.alloc (.cells (rnC r.size r.base r.en v) 24)) hn)
  obtain ⟨A, c, rfl, _, _⟩ := ho.frs
  clear ho
  go_enter Try.func18, Try.ntmps18
  go_wp2_with fail
  refine HO.out.mono ?_
  rintro e w1 ⟨rfl, ho1, hb1, hg1⟩
  have HB1 := Lib.hid (HB0.out.trans hb1)
  have HG1 := Lib.hid (only_firstI hg1)
  have HO1 := Lib.hid ho1
  clear hb1 ho1 hg1 HO
  go_wp2
  go_ret
  exact ⟨rfl, HO1.out, HB1.out, HG1.out⟩

set_option maxRecDepth 100000 in
/-- laws.heldRing, of a ring that holds the marks. -/
theorem heldrn (r : Rn) (k : Nat) (A : Option Addr) (cap B : Nat) (w : World) (hB : B ≤ w.heap.size) (hr : Ints w B A (marks 1 k)) (hn : k ≤ 10000000) :
    Calls Try.prog 20 #[rnV r (.slice A k cap), .int .i64 1] w fun e w' => e = .returned (.int .i64 (1 + (k : Int))) ∧ Below w.heap.size w w' := by
  have HB0 := Lib.hid ((Below.refl w.heap.size w).alloc (Nat.le_refl _) (.cells (rnC r.size r.base r.en (.slice A k cap)) 24))
  have HO := Lib.hid (held k A cap B (w.alloc (.cells (rnC r.size r.base r.en (.slice A k cap)) 24)) (hr.below hB HB0.out) (by omega))
  obtain ⟨m, hm⟩ : ∃ m : Int, 1 + (k : Int) = m := ⟨_, rfl⟩
  have hd : decide (m < 0) = false := decide_eq_false (by omega)
  rw [hm] at HO
  rw [hm]
  clear hr hm
  go_enter Try.func20, Try.ntmps20
  go_wp2_with fail
  refine HO.out.mono ?_
  rintro e w1 ⟨rfl, rfl⟩
  go_wp2
  go_ret
  exact ⟨rfl, HB0.out⟩

set_option maxRecDepth 100000 in
set_option maxHeartbeats 1000000 in
/-- laws.toRing: a copy, in new blocks. -/
theorem torn (r : Rn) (A : Option Addr) (cap B : Nat) (w : World) (hB : B ≤ w.heap.size) (hr : Ints w B A r.cs) (hn : r.cs.length ≤ 1048576) :
    Calls Try.prog 32 #[rnV r (.slice A r.cs.length cap)] w fun e w' => ∃ g, e = .returned (rnV r (.slice (some ⟨g, 0, none⟩) r.cs.length r.cs.length)) ∧ OwnK w' w.heap.size (.slice (some ⟨g, 0, none⟩) r.cs.length r.cs.length) r.cs ∧ Below w.heap.size w w' := by
  obtain ⟨s, b, e, l⟩ := r
  dsimp only at *
  have HR := Lib.hid hr
  clear hr
  have HT : Hid (∀ W, w.heap.size ≤ W.heap.size → Below w.heap.size w W → Calls Try.prog 51 #[.slice A l.length cap] W fun e w' => e = .returned (.slice (some ⟨W.heap.size, 0, none⟩) l.length l.length) ∧ w' = W.alloc (.cells (cellsI l) 3)) := Lib.hid fun W h1 h2 => toints l A cap B W (Nat.le_trans hB h1) (HR.out.below hB h2) hn
  have s1 : ∀ o1, (w.alloc o1).heap.size = w.heap.size + 1 := fun _ => by simp
  have s2 : ∀ o1 o2, ((w.alloc o1).alloc o2).heap.size = w.heap.size + 2 := fun _ _ => by simp
  have s3 : ∀ o1 o2 o3, (((w.alloc o1).alloc o2).alloc o3).heap.size = w.heap.size + 3 := fun _ _ _ => by simp
  have HB3 := Lib.hid ((((Below.refl w.heap.size w).alloc (Nat.le_refl _) (.cells (rnC s b e (.slice A l.length cap)) 33)).alloc (by simp) (.cells (rnC 0 0 0 (.slice none 0 0)) 24)).alloc (by simp; omega) (.cells (rnC s b e (.slice none 0 0)) 24))
  have X0 := ((Cell4.new w s b e (.slice A l.length cap) 33).below ((Below.refl (w.heap.size + 1) _).alloc (by simp) (.cells (rnC 0 0 0 (.slice none 0 0)) 24)) (Nat.lt_succ_self _)).below ((Below.refl (w.heap.size + 1) _).alloc (by simp) (.cells (rnC s b e (.slice none 0 0)) 24)) (Nat.lt_succ_self _)
  have X1 := ((BoxN.new (w.alloc (.cells (rnC s b e (.slice A l.length cap)) 33)) 0 0 0 (.slice none 0 0)).alloc (.cells (rnC s b e (.slice none 0 0)) 24))
  have X2 := BoxN.new ((w.alloc (.cells (rnC s b e (.slice A l.length cap)) 33)).alloc (.cells (rnC 0 0 0 (.slice none 0 0)) 24)) s b e (.slice none 0 0)
  rw [s1] at X1
  rw [s2] at X2
  have HX0 := Lib.hid X0
  have HX := Lib.hid (And.intro X1 X2)
  have HS := Lib.hid (s3 (.cells (rnC s b e (.slice A l.length cap)) 33) (.cells (rnC 0 0 0 (.slice none 0 0)) 24) (.cells (rnC s b e (.slice none 0 0)) 24))
  clear X0 X1 X2 s1 s2 s3
  go_enter Try.func32, Try.ntmps32
  go_wp2_with fail
  generalize (((w.alloc (.cells (rnC s b e (.slice A l.length cap)) 33)).alloc (.cells (rnC 0 0 0 (.slice none 0 0)) 24)).alloc (.cells (rnC s b e (.slice none 0 0)) 24)) = w3 at *
  refine (HT.out w3 HB3.out.size HB3.out).mono ?_
  rw [HS.out]
  rintro e w4 ⟨rfl, rfl⟩
  have hs3 : w3.heap.size = w.heap.size + 3 := HS.out
  have HO : Hid (OwnK (w3.alloc (.cells (cellsI l) 3)) (w.heap.size + 3) (.slice (some ⟨w.heap.size + 3, 0, none⟩) l.length l.length) l) := Lib.hid (OwnK.row (Nat.le_refl _) 3 (by rw [← hs3]; exact heap_alloc_new w3 _) (Nat.le_refl _))
  have HB4 := Lib.hid (HB3.out.alloc HB3.out.size (.cells (cellsI l) 3))
  have HY := Lib.hid (And.intro (HX.out.1.alloc (.cells (cellsI l) 3)) (HX.out.2.alloc (.cells (cellsI l) 3)))
  generalize w3.alloc (.cells (cellsI l) 3) = w4 at *
  obtain ⟨q0, q1, q2, q3⟩ := HY.out.1.cells
  obtain ⟨p0, p1, p2, p3⟩ := HY.out.2.cells
  have f1 := HY.out.1.free
  have f2 := HY.out.2.free
  clear HT HR HX HX0 HB3 hs3 HS
  go_wp2
  refine bodyPost_ret (results_cell_row rfl _ _ (w.heap.size + 1) _ _ _ _ rfl (((((HY.out.1.other (w.heap.size + 1 + 1) 3 _ (by omega)).set0 s).set1 b).set2 e).set3 _) Try.underlying24 rfl (by kernel_rfl)) rfl ?_
  have hq : w.heap.size ≤ w.heap.size + 1 := Nat.le_succ _
  have hq2 : w.heap.size ≤ w.heap.size + 1 + 1 := by omega
  exact ⟨w.heap.size + 3, rfl, (((((HO.out.apart (w.heap.size + 1 + 1) 3 _ (by omega)).apart (w.heap.size + 1) 0 _ (by omega)).apart (w.heap.size + 1) 1 _ (by omega)).apart (w.heap.size + 1) 2 _ (by omega)).apart (w.heap.size + 1) 3 _ (by omega)).weaken (by omega), ((((HB4.out.setCell (p := ⟨_, _, _⟩) hq2 _).setCell (p := ⟨_, _, _⟩) hq _).setCell (p := ⟨_, _, _⟩) hq _).setCell (p := ⟨_, _, _⟩) hq _).setCell (p := ⟨_, _, _⟩) hq _⟩

/-- laws.toRing of the ring that came in. -/
theorem InRn.to {w0 : World} {g : Nat} {r : Rn} {A : Option Addr} {cap : Nat} {W : World} (h : InRn w0 g r A cap W) (hn : r.cs.length ≤ 1048576) :
    Calls Try.prog 32 #[rnV r (.slice A r.cs.length cap)] W fun e w' => ∃ g, e = .returned (rnV r (.slice (some ⟨g, 0, none⟩) r.cs.length r.cs.length)) ∧ OwnK w' W.heap.size (.slice (some ⟨g, 0, none⟩) r.cs.length r.cs.length) r.cs ∧ Below W.heap.size W w' :=
  torn r A cap g W (Nat.le_of_lt h.2.2.1) h.2.1 hn
/-- laws.eqRing of two variables that hold the same. -/
theorem eqvn (r : Rn) (A A' : Option Addr) (cap cap' B B' : Nat) (W : World) (h : OwnK W B (.slice A r.cs.length cap) r.cs) (h' : OwnK W B' (.slice A' r.cs.length cap') r.cs) (hn : r.cs.length ≤ 1000000000) :
    Calls Try.prog 16 #[rnV r (.slice A r.cs.length cap), rnV r (.slice A' r.cs.length cap')] W fun e w' => e = .returned (.bool true) ∧ Below W.heap.size W w' :=
  eqrn r A A' cap cap' W.heap.size W (Nat.le_refl _) h.chs h'.chs hn
end Go.Proofs.Ytjohbfdifdjldaa
