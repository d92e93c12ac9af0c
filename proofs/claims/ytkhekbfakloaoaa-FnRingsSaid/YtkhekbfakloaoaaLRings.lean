/-
  The law on rings, walked.
-/
import Derived.Test.YtkhekbfakloaoaaDrawN3
import Derived.Test.YtkhekbfakloaoaaSRn4
import Derived.Test.YtkhekbfakloaoaaLRn
import Derived.Test.YtkhekbfakloaoaaBig
import Derived.Test.YtkhekbfakloaoaaCodeRow
import Derived.Deep.RegionHeld
import Derived.Deep.CutBlock
namespace Go.Proofs.Ytkhekbfakloaoaa
open Go.RowKit Go.Deep Go.Proofs.Ytkhekbfakloaoaa.Num

/-- 3 variables that hold rings, and what was made since. -/
def N3W (w : World) (g0 : Nat) (r0 : Rn) (v0 : Value) (g1 : Nat) (r1 : Rn) (v1 : Value) (g2 : Nat) (r2 : Rn) (v2 : Value) (W : World) : Prop := VarN W w.heap.size g0 r0 v0 ∧ VarN W w.heap.size g1 r1 v1 ∧ VarN W w.heap.size g2 r2 v2 ∧ Below w.heap.size w W
theorem N3W.next {w : World} {g0 : Nat} {r0 : Rn} {v0 : Value} {g1 : Nat} {r1 : Rn} {v1 : Value} {g2 : Nat} {r2 : Rn} {v2 : Value} {W W' : World} (h : N3W w g0 r0 v0 g1 r1 v1 g2 r2 v2 W) (hb : Below W.heap.size W W') : N3W w g0 r0 v0 g1 r1 v1 g2 r2 v2 W' := ⟨(h.1).next hb, (h.2.1).next hb, (h.2.2.1).next hb, (h.2.2.2).trans (hb.mono (h.2.2.2).size)⟩
/-- 6 variables that hold rings, and what was made since. -/
def N6W (w : World) (g0 : Nat) (r0 : Rn) (v0 : Value) (g1 : Nat) (r1 : Rn) (v1 : Value) (g2 : Nat) (r2 : Rn) (v2 : Value) (g3 : Nat) (r3 : Rn) (v3 : Value) (g4 : Nat) (r4 : Rn) (v4 : Value) (g5 : Nat) (r5 : Rn) (v5 : Value) (W : World) : Prop := VarN W w.heap.size g0 r0 v0 ∧ VarN W w.heap.size g1 r1 v1 ∧ VarN W w.heap.size g2 r2 v2 ∧ VarN W w.heap.size g3 r3 v3 ∧ VarN W w.heap.size g4 r4 v4 ∧ VarN W w.heap.size g5 r5 v5 ∧ Below w.heap.size w W
theorem N6W.next {w : World} {g0 : Nat} {r0 : Rn} {v0 : Value} {g1 : Nat} {r1 : Rn} {v1 : Value} {g2 : Nat} {r2 : Rn} {v2 : Value} {g3 : Nat} {r3 : Rn} {v3 : Value} {g4 : Nat} {r4 : Rn} {v4 : Value} {g5 : Nat} {r5 : Rn} {v5 : Value} {W W' : World} (h : N6W w g0 r0 v0 g1 r1 v1 g2 r2 v2 g3 r3 v3 g4 r4 v4 g5 r5 v5 W) (hb : Below W.heap.size W W') : N6W w g0 r0 v0 g1 r1 v1 g2 r2 v2 g3 r3 v3 g4 r4 v4 g5 r5 v5 W' := ⟨(h.1).next hb, (h.2.1).next hb, (h.2.2.1).next hb, (h.2.2.2.1).next hb, (h.2.2.2.2.1).next hb, (h.2.2.2.2.2.1).next hb, (h.2.2.2.2.2.2).trans (hb.mono (h.2.2.2.2.2.2).size)⟩
theorem bneI (x : Int) : (x != x) = false := by simp
theorem beqI (x : Int) : (x == x) = true := by simp
theorem bneB (x : Bool) : (x != x) = false := by cases x <;> rfl
theorem beqB (x : Bool) : (x == x) = true := by cases x <;> rfl
theorem smallRn.inI {r : Rn} (h : smallRn r) : inI r.cs := fun z hz => by have := h.2.1 z hz; omega
theorem sameRn_refl (r : Rn) : sameRn r r := ⟨rfl, rfl, rfl, rfl⟩
theorem canP_all {r : Rn} (h : okRn r) : canP r r.base (r.en - r.base) := ⟨h, Int.le_refl _, by have := h.2.2.2.1; omega, h.2.2.2.1, Int.le_refl _⟩
theorem pkR_all {r : Rn} (h : okRn r) : pkR r r.base (r.en - r.base) = ⟨(peekL r.size r.base r.cs (r.en - r.base).toNat).toArray⟩ := if_pos (canP_all h)
theorem pkR_write {r : Rn} (d : ByteArray) (h : okRn r) : pkR (wrR r d) r.base ((wrR r d).en - r.base) = pkR r r.base (r.en - r.base) ++ d.extract 0 (cntW r d) := by
  have h1 := cntW_in r d
  have h2 : (wrR r d).en - r.base = (r.en - r.base) + cntW r d := by show r.en + (cntW r d : Int) - r.base = _; omega
  have h3 : 0 ≤ r.en - r.base := by have := h.2.2.2.1; omega
  rw [pkR_all h]
  show pkR (wrR r d) (wrR r d).base _ = _
  rw [show r.base = (wrR r d).base from rfl, pkR_all (wrR_ok d h)]
  show (⟨(peekL r.size r.base (wrR r d).cs ((wrR r d).en - r.base).toNat).toArray⟩ : ByteArray) = ⟨(peekL r.size r.base r.cs (r.en - r.base).toNat).toArray⟩ ++ d.extract 0 (cntW r d)
  rw [h2, show (r.en - r.base + (cntW r d : Int)).toNat = (r.en - r.base).toNat + cntW r d by omega, peek_write d h]
  apply ByteArray.ext
  apply Array.ext'
  simp

set_option maxRecDepth 100000 in
set_option maxHeartbeats 8000000 in
/-- The law. -/
theorem law_Rings (HIW : ∀ (r : Rn) (d : ByteArray) (A : Option Addr) (cap B : Nat) (w : World), B ≤ w.heap.size → Ints w B A r.cs → r.cs.length ≤ 1048576 → r.cs.length ≤ cap → inI r.cs → inRn r → d.size ≤ 1048576 → Calls Try.prog 13 #[rnV r (.slice A r.cs.length cap), .string d] w fun e w' => ∃ v, e = .returned (.tuple #[rnV (wrR r d) v, .int .i64 ((cntW r d : Int))]) ∧ OwnK w' w.heap.size v (wrR r d).cs ∧ Below w.heap.size w w')
    (HII : ∀ (r : Rn) (A : Option Addr) (cap B : Nat) (w : World), B ≤ w.heap.size → Ints w B A r.cs → r.cs.length ≤ 1048576 → r.cs.length ≤ cap → inI r.cs → inRn r → Calls Try.prog 16 #[rnV r (.slice A r.cs.length cap)] w fun e w' => e = .returned (.bool (decide (okRn r))) ∧ Below w.heap.size w w')
    (HIR : ∀ (r : Rn) (A : Option Addr) (cap B : Nat) (w : World), B ≤ w.heap.size → Ints w B A r.cs → r.cs.length ≤ 1048576 → r.cs.length ≤ cap → inI r.cs → inRn r → Calls Try.prog 18 #[rnV r (.slice A r.cs.length cap)] w fun e w' => e = .returned (.int .i64 (roomR r)) ∧ Below w.heap.size w w')
    (HIP : ∀ (r : Rn) (o : Int) (q : Int) (A : Option Addr) (cap B : Nat) (w : World), B ≤ w.heap.size → Ints w B A r.cs → r.cs.length ≤ 1048576 → r.cs.length ≤ cap → inI r.cs → inRn r → (-9223372036854775808 ≤ o ∧ o ≤ 9223372036854775807) → (-9223372036854775808 ≤ q ∧ q ≤ 9223372036854775807) → Calls Try.prog 20 #[rnV r (.slice A r.cs.length cap), .int .i64 o, .int .i64 q] w fun e w' => e = .returned (.tuple #[.string (pkR r o q), .bool (decide (canP r o q))]) ∧ Below w.heap.size w w')
    (HID : ∀ (r : Rn) (o : Int) (A : Option Addr) (cap B : Nat) (w : World), B ≤ w.heap.size → Ints w B A r.cs → r.cs.length ≤ 1048576 → r.cs.length ≤ cap → inI r.cs → inRn r → (-9223372036854775808 ≤ o ∧ o ≤ 9223372036854775807) → Calls Try.prog 24 #[rnV r (.slice A r.cs.length cap), .int .i64 o] w fun e w' => ∃ v, e = .returned (.tuple #[rnV (drR r o) v, .bool (decide (canD r o))]) ∧ OwnK w' w.heap.size v (drR r o).cs ∧ Below w.heap.size w w')
    (HIN : ∀ (n : Int) (W : World), (-9223372036854775808 ≤ n ∧ n ≤ 9223372036854775807) → Calls Try.prog 27 #[.int .i64 n] W fun e w' => ∃ v, e = .returned (.tuple #[rnV (nwR n) v, .bool (decide (powR n))]) ∧ OwnK w' W.heap.size v (nwR n).cs ∧ Below W.heap.size W w')
    (HIE : ∀ (r s : Rn) (A A' : Option Addr) (cap cap' B : Nat) (w : World), B ≤ w.heap.size → Ints w B A r.cs → Ints w B A' s.cs → r.cs.length ≤ 1048576 → s.cs.length ≤ 1048576 → Calls Try.prog 30 #[rnV r (.slice A r.cs.length cap), rnV s (.slice A' s.cs.length cap')] w fun e w' => e = .returned (.bool (decide (sameRn r s))) ∧ Below w.heap.size w w')
    (A : Option Addr) (len cap : Nat) (w : World) (hlen : len ≤ maxLen) (hcode : Code w w.heap.size A len) :
    Calls Try.prog 3 #[.slice A len cap] w fun e w' => e = .returned (.bool true) ∧ Below w.heap.size w w' := by
  have JW := Lib.hid HIW
  have JI := Lib.hid HII
  have JR := Lib.hid HIR
  have JP := Lib.hid HIP
  have JD := Lib.hid HID
  have JN := Lib.hid HIN
  have JE := Lib.hid HIE
  clear HIW HII HIR HIP HID HIN HIE
  by_cases hbig : 1048576 < len
  · go_enter Try.func3, Try.ntmps3
    go_wp2_with (go_at_call 11; refine (big_yes A len cap _ hbig hlen).mono ?_; rintro e w' ⟨rfl, rfl⟩)
    go_ret
    exact ⟨rfl, Below.refl _ _⟩
  have hsm : len ≤ 1048576 := by omega
  clear hbig
  have HC := Lib.hid hcode
  have HL := Lib.hid hlen
  clear hcode hlen
  go_enter Try.func3, Try.ntmps3
  go_wp2_with fail
  refine (big_no A len cap _ hsm).mono ?_
  rintro e w' ⟨rfl, rfl⟩
  go_wp2_with fail
  refine (draw_write A len cap _ HL.out HC.out).mono ?_
  rintro e w1 ⟨r, v, l, rfl, hsr, hl9, ho, hb1⟩
  obtain ⟨A1, c1, rfl, hc1, _⟩ := ho.frs
  have hdz : (⟨l.toArray⟩ : ByteArray).size ≤ 9 := by show l.toArray.size ≤ 9; rw [List.size_toArray]; exact hl9
  generalize (⟨l.toArray⟩ : ByteArray) = d at *
  clear hl9
  have VA := Lib.hid (VarN.new r 26 ho hb1.size)
  have BL := Lib.hid (hb1.alloc hb1.size (.cells (rnC r.size r.base r.en (.slice A1 r.cs.length c1)) 26))
  have hl6 := hsr.1
  have HIB := Lib.hid hsr.inI
  have HX := Lib.hid hsr.2.2.2.2
  have hb0 := hsr.2.2.1
  have hb30 := hsr.2.2.2.1
  clear hb1 ho
  have CIW : Hid (∀ W, Ints W W.heap.size A1 r.cs → Calls Try.prog 13 #[rnV r (.slice A1 r.cs.length c1), .string d] W fun e w' => ∃ v, e = .returned (.tuple #[rnV (wrR r d) v, .int .i64 (cntW r d : Int)]) ∧ OwnK w' W.heap.size v (wrR r d).cs ∧ Below W.heap.size W w') := Lib.hid fun W h => JW.out r d A1 c1 W.heap.size W (Nat.le_refl _) h (by omega) (by omega) HIB.out HX.out (by omega)
  have CSW : Hid (∀ W, Ints W W.heap.size A1 r.cs → Calls Try.prog 14 #[rnV r (.slice A1 r.cs.length c1), .string d] W fun e w' => ∃ v, e = .returned (.tuple #[rnV (wrR r d) v, .int .i64 (cntW r d : Int)]) ∧ OwnK w' W.heap.size v (wrR r d).cs ∧ Below W.heap.size W w') := Lib.hid fun W h => swrite r d A1 c1 W.heap.size W (Nat.le_refl _) h (by omega) HX.out (by omega)
  have CII : Hid (∀ W, Ints W W.heap.size A1 r.cs → Calls Try.prog 16 #[rnV r (.slice A1 r.cs.length c1)] W fun e w' => e = .returned (.bool (decide (okRn r))) ∧ Below W.heap.size W w') := Lib.hid fun W h => JI.out r A1 c1 W.heap.size W (Nat.le_refl _) h (by omega) (by omega) HIB.out HX.out
  have CSI : Hid (∀ W, Ints W W.heap.size A1 r.cs → Calls Try.prog 17 #[rnV r (.slice A1 r.cs.length c1)] W fun e w' => e = .returned (.bool (decide (okRn r))) ∧ Below W.heap.size W w') := Lib.hid fun W h => sisrn r A1 c1 W.heap.size W (Nat.le_refl _) h (by omega) HX.out
  have CIR : Hid (∀ W, Ints W W.heap.size A1 r.cs → Calls Try.prog 18 #[rnV r (.slice A1 r.cs.length c1)] W fun e w' => e = .returned (.int .i64 (roomR r)) ∧ Below W.heap.size W w') := Lib.hid fun W h => JR.out r A1 c1 W.heap.size W (Nat.le_refl _) h (by omega) (by omega) HIB.out HX.out
  have CSR : Hid (∀ W, Ints W W.heap.size A1 r.cs → Calls Try.prog 19 #[rnV r (.slice A1 r.cs.length c1)] W fun e w' => e = .returned (.int .i64 (roomR r)) ∧ Below W.heap.size W w') := Lib.hid fun W h => sroom r A1 c1 W.heap.size W (Nat.le_refl _) h (by omega) HX.out
  have CP1 : Hid (okRn r → ∀ W, Ints W W.heap.size A1 r.cs → Calls Try.prog 20 #[rnV r (.slice A1 r.cs.length c1), .int .i64 r.base, .int .i64 (r.en - r.base)] W fun e w' => e = .returned (.tuple #[.string (pkR r r.base (r.en - r.base)), .bool true]) ∧ Below W.heap.size W w') := Lib.hid fun hok W h => by
    have h1 := hok.2.2.2.1
    have h2 := hok.2.2.1
    have h3 := hok.2.2.2.2.2.1
    have h9 := JP.out r r.base (r.en - r.base) A1 c1 W.heap.size W (Nat.le_refl _) h (by omega) (by omega) HIB.out HX.out (by omega) (by omega)
    rw [decide_eq_true (canP_all hok)] at h9
    exact h9
  have CP2 : Hid (okRn r → ∀ X cx, (wrR r d).cs.length ≤ cx → ∀ W, Ints W W.heap.size X (wrR r d).cs → Calls Try.prog 20 #[rnV (wrR r d) (.slice X (wrR r d).cs.length cx), .int .i64 r.base, .int .i64 ((wrR r d).en - r.base)] W fun e w' => e = .returned (.tuple #[.string (pkR r r.base (r.en - r.base) ++ d.extract 0 (cntW r d)), .bool true]) ∧ Below W.heap.size W w') := Lib.hid fun hok X cx hcx W h => by
    have hoy := wrR_ok d hok
    have h1 := hoy.2.2.2.1
    have h2 := hoy.2.2.1
    have h3 := hoy.2.2.2.2.2.1
    have h4 : (wrR r d).base = r.base := rfl
    have h5 : (wrR r d).size = r.size := rfl
    have h6 := hok.1.lo
    have hlw := wrR_len r d
    have h9 := JP.out (wrR r d) r.base ((wrR r d).en - r.base) X cx W.heap.size W (Nat.le_refl _) h (by omega) hcx (fun z hz => by have := hoy.2.2.2.2.2.2 z hz; omega) ⟨by omega, by omega, by omega, by omega⟩ (by omega) (by omega)
    rw [pkR_write d hok, decide_eq_true (show canP (wrR r d) r.base ((wrR r d).en - r.base) from canP_all hoy)] at h9
    exact h9
  have HCW := Lib.hid (cntW_in r d)
  have hlw : (wrR r d).cs.length ≤ 64 := by rw [wrR_len]; exact hl6
  have HEN : Hid (okRn r → (-9223372036854775808 ≤ (wrR r d).en - r.base ∧ (wrR r d).en - r.base ≤ 9223372036854775807) ∧ (-9223372036854775808 ≤ r.en - r.base ∧ r.en - r.base ≤ 9223372036854775807)) := Lib.hid fun hok => by
    have hoy := wrR_ok d hok
    have h1 := hoy.2.2.2.1
    have h2 := hoy.2.2.1
    have h3 := hoy.2.2.2.2.2.1
    have h4 : (wrR r d).base = r.base := rfl
    have h5 := hok.2.2.2.1
    have h6 := hok.2.2.2.2.2.1
    exact ⟨by omega, by omega⟩
  have hrm := (roomR_in r).2
  generalize wrR r d = y at *
  generalize cntW r d = c at *
  generalize roomR r = m at *
  clear hsr hb0 hb30
  have CEQ : Hid (∀ (X Y : Option Addr) (cx cy : Nat) W, Ints W W.heap.size X y.cs → Ints W W.heap.size Y y.cs → Calls Try.prog 15 #[rnV y (.slice X y.cs.length cx), rnV y (.slice Y y.cs.length cy)] W fun e w' => e = .returned (.bool true) ∧ Below W.heap.size W w') := Lib.hid fun X Y cx cy W h h' => by
    have h2 := seqrn y y X Y cx cy W.heap.size W (Nat.le_refl _) h h' (by omega)
    rw [decide_eq_true (sameRn_refl y)] at h2
    exact h2
  go_upto_region 4 with fail
  generalize w1.alloc (.cells (rnC r.size r.base r.en (.slice A1 r.cs.length c1)) 26) = w2 at *
  generalize w1.heap.size = kr at *
  obtain ⟨p0, p1, p2, p3⟩ := VA.out.1
  go_wp2_with fail
  refine (CIW.out w2 VA.out.2.1.chs).mono ?_
  rintro e w3 ⟨v3, rfl, ho3, hb3⟩
  obtain ⟨A3, c3, rfl, hc3, _⟩ := ho3.frs
  have VX := Lib.hid (VarN.new y 26 (ho3.weaken BL.out.size) (Nat.le_trans BL.out.size hb3.size))
  have VA2 := Lib.hid ((VA.out.next hb3).alloc (.cells (rnC y.size y.base y.en (.slice A3 y.cs.length c3)) 26))
  have BL2 := Lib.hid ((BL.out.trans (hb3.mono BL.out.size)).alloc (Nat.le_trans BL.out.size hb3.size) (.cells (rnC y.size y.base y.en (.slice A3 y.cs.length c3)) 26))
  clear ho3 hb3 VA BL CIW p0 p1 p2 p3
  go_upto_region 5 with fail
  generalize w3.alloc (.cells (rnC y.size y.base y.en (.slice A3 y.cs.length c3)) 26) = w4 at *
  generalize w3.heap.size = kx at *
  obtain ⟨p0, p1, p2, p3⟩ := VA2.out.1
  go_wp2_with fail
  refine (CSW.out w4 VA2.out.2.1.chs).mono ?_
  rintro e w5 ⟨v5, rfl, ho5, hb5⟩
  obtain ⟨A5, c5, rfl, hc5, _⟩ := ho5.frs
  have HH0 := Lib.hid (show N3W w kr r _ kx y _ w5.heap.size y _ _ from ⟨(VA2.out.next hb5).alloc (.cells (rnC y.size y.base y.en (.slice A5 y.cs.length c5)) 26), (VX.out.next hb5).alloc (.cells (rnC y.size y.base y.en (.slice A5 y.cs.length c5)) 26), VarN.new y 26 (ho5.weaken BL2.out.size) (Nat.le_trans BL2.out.size hb5.size), (BL2.out.trans (hb5.mono BL2.out.size)).alloc (Nat.le_trans BL2.out.size hb5.size) (.cells (rnC y.size y.base y.en (.slice A5 y.cs.length c5)) 26)⟩)
  clear ho5 hb5 VA2 VX BL2 CSW p0 p1 p2 p3
  go_upto_region 6 with fail
  generalize w5.alloc (.cells (rnC y.size y.base y.en (.slice A5 y.cs.length c5)) 26) = w6 at *
  generalize w5.heap.size = ky at *
  have HH := Lib.hid (N3W.next HH0.out (Below.refl w6.heap.size w6).drew)
  have ncc := bneI (c : Int)
  have nmm := bneI m
  have nbb := bneB (decide (okRn r))
  have nyy : (y.cs.length : Int) = y.cs.length := rfl
  clear HH0 nyy
  refine wp_region_held_drew (S := (N3W w kr r (.slice A1 r.cs.length c1) kx y (.slice A3 y.cs.length c3) ky y (.slice A5 y.cs.length c5))) (by kernel_rfl) HH.out (fun hHeld => ?_)
  refine wpAnyH_take (i := 0) (v := ?_) rfl (by kernel_rfl) (by kernel_rfl) (by kernel_rfl) (fun _ _ _ h => h) (Or.inl ⟨by rfl, ?_⟩) hHeld ?_
  rotate_left
  · (intro wx hSx; obtain ⟨⟨a0, a1, a2, a3⟩, ⟨b0, b1, b2, b3⟩, ⟨e0, e1, e2, e3⟩⟩ : (_ ∧ _) ∧ (_ ∧ _) ∧ (_ ∧ _) := ⟨hSx.1.1, hSx.2.1.1, hSx.2.2.1.1⟩; go_simp; (try with_reducible rfl))
  (try simp only [Act.put, List.getElem_toArray, List.getElem_cons_zero, List.setIfInBounds_toArray, List.set_cons_succ, List.set_cons_zero])
  refine wpAnyH_take (i := 1) (v := ?_) rfl (by kernel_rfl) (by kernel_rfl) (by kernel_rfl) (fun _ _ _ h => h) (Or.inl ⟨by rfl, ?_⟩) hHeld ?_
  rotate_left
  · (intro wx hSx; obtain ⟨⟨a0, a1, a2, a3⟩, ⟨b0, b1, b2, b3⟩, ⟨e0, e1, e2, e3⟩⟩ : (_ ∧ _) ∧ (_ ∧ _) ∧ (_ ∧ _) := ⟨hSx.1.1, hSx.2.1.1, hSx.2.2.1.1⟩; go_simp; (try with_reducible rfl))
  (try simp only [Act.put, List.getElem_toArray, List.getElem_cons_succ, List.getElem_cons_zero, List.setIfInBounds_toArray, List.set_cons_succ, List.set_cons_zero])
  refine wpAnyH_take (i := 2) (v := ?_) rfl (by kernel_rfl) (by kernel_rfl) (by kernel_rfl) (fun _ _ _ h => h) (Or.inl ⟨by rfl, ?_⟩) hHeld ?_
  rotate_left
  · (intro wx hSx; obtain ⟨⟨a0, a1, a2, a3⟩, ⟨b0, b1, b2, b3⟩, ⟨e0, e1, e2, e3⟩⟩ : (_ ∧ _) ∧ (_ ∧ _) ∧ (_ ∧ _) := ⟨hSx.1.1, hSx.2.1.1, hSx.2.2.1.1⟩; go_simp; (try with_reducible rfl))
  (try simp only [Act.put, List.getElem_toArray, List.getElem_cons_succ, List.getElem_cons_zero, List.setIfInBounds_toArray, List.set_cons_succ, List.set_cons_zero])
  refine wpAnyH_take (i := 3) (v := ?_) rfl (by kernel_rfl) (by kernel_rfl) (by kernel_rfl) (fun _ _ _ h => h) (Or.inl ⟨by rfl, ?_⟩) hHeld ?_
  rotate_left
  · (intro wx hSx; obtain ⟨⟨a0, a1, a2, a3⟩, ⟨b0, b1, b2, b3⟩, ⟨e0, e1, e2, e3⟩⟩ : (_ ∧ _) ∧ (_ ∧ _) ∧ (_ ∧ _) := ⟨hSx.1.1, hSx.2.1.1, hSx.2.2.1.1⟩; go_simp; (try with_reducible rfl))
  (try simp only [Act.put, List.getElem_toArray, List.getElem_cons_succ, List.getElem_cons_zero, List.setIfInBounds_toArray, List.set_cons_succ, List.set_cons_zero])
  refine wpAnyH_take (i := 4) (v := ?_) rfl (by kernel_rfl) (by kernel_rfl) (by kernel_rfl) (fun _ _ _ h => h) (Or.inl ⟨by rfl, ?_⟩) hHeld ?_
  rotate_left
  · (intro wx hSx; obtain ⟨⟨a0, a1, a2, a3⟩, ⟨b0, b1, b2, b3⟩, ⟨e0, e1, e2, e3⟩⟩ : (_ ∧ _) ∧ (_ ∧ _) ∧ (_ ∧ _) := ⟨hSx.1.1, hSx.2.1.1, hSx.2.2.1.1⟩; go_simp; (try with_reducible rfl))
  (try simp only [Act.put, List.getElem_toArray, List.getElem_cons_succ, List.getElem_cons_zero, List.setIfInBounds_toArray, List.set_cons_succ, List.set_cons_zero])
  refine wpAnyH_take (i := 5) (v := ?_) rfl (by kernel_rfl) (by kernel_rfl) (by kernel_rfl) (fun _ _ _ h => h) (Or.inl ⟨by rfl, ?_⟩) hHeld ?_
  rotate_left
  · (intro wx hSx; obtain ⟨⟨a0, a1, a2, a3⟩, ⟨b0, b1, b2, b3⟩, ⟨e0, e1, e2, e3⟩⟩ : (_ ∧ _) ∧ (_ ∧ _) ∧ (_ ∧ _) := ⟨hSx.1.1, hSx.2.1.1, hSx.2.2.1.1⟩; go_simp; (try with_reducible rfl))
  (try simp only [Act.put, List.getElem_toArray, List.getElem_cons_succ, List.getElem_cons_zero, List.setIfInBounds_toArray, List.set_cons_succ, List.set_cons_zero])
  refine wpAnyH_ready (rs := [6]) (by kernel_rfl) (by simp) ?_
  refine AllReadyH.cons rfl (fun K hK => ?_) AllReadyH.nil
  rw [if_pos (by rfl)]
  go_simp
  refine (CEQ.out _ _ _ _ _ HH.out.2.1.2.1.chs HH.out.2.2.1.2.1.chs).mono ?_
  rintro e w1 ⟨rfl, hb1⟩
  have HH := Lib.hid (HH.out.next hb1)
  (try simp only [])
  refine hK.out _ _ HH.out (fun hHeld => ?_)
  clear hb1
  clear hK K
  (try simp only [Act.put, List.getElem_toArray, List.getElem_cons_succ, List.getElem_cons_zero, List.setIfInBounds_toArray, List.set_cons_succ, List.set_cons_zero])
  refine wpAnyH_take (i := 7) (v := ?_) rfl (by kernel_rfl) (by kernel_rfl) (by kernel_rfl) (fun _ _ _ h => h) (Or.inl ⟨by rfl, ?_⟩) hHeld ?_
  rotate_left
  · (intro wx hSx; obtain ⟨⟨a0, a1, a2, a3⟩, ⟨b0, b1, b2, b3⟩, ⟨e0, e1, e2, e3⟩⟩ : (_ ∧ _) ∧ (_ ∧ _) ∧ (_ ∧ _) := ⟨hSx.1.1, hSx.2.1.1, hSx.2.2.1.1⟩; go_simp; (try with_reducible rfl))
  (try simp only [Act.put, List.getElem_toArray, List.getElem_cons_succ, List.getElem_cons_zero, List.setIfInBounds_toArray, List.set_cons_succ, List.set_cons_zero])
  refine wpAnyH_take (i := 8) (v := ?_) rfl (by kernel_rfl) (by kernel_rfl) (by kernel_rfl) (fun _ _ _ h => h) (Or.inl ⟨by rfl, ?_⟩) hHeld ?_
  rotate_left
  · (intro wx hSx; obtain ⟨⟨a0, a1, a2, a3⟩, ⟨b0, b1, b2, b3⟩, ⟨e0, e1, e2, e3⟩⟩ : (_ ∧ _) ∧ (_ ∧ _) ∧ (_ ∧ _) := ⟨hSx.1.1, hSx.2.1.1, hSx.2.2.1.1⟩; go_simp; (try with_reducible rfl))
  (try simp only [Act.put, List.getElem_toArray, List.getElem_cons_succ, List.getElem_cons_zero, List.setIfInBounds_toArray, List.set_cons_succ, List.set_cons_zero])
  refine wpAnyH_take (i := 9) (v := ?_) rfl (by kernel_rfl) (by kernel_rfl) (by kernel_rfl) (fun _ _ _ h => h) (Or.inl ⟨by rfl, ?_⟩) hHeld ?_
  rotate_left
  · (intro wx hSx; obtain ⟨⟨a0, a1, a2, a3⟩, ⟨b0, b1, b2, b3⟩, ⟨e0, e1, e2, e3⟩⟩ : (_ ∧ _) ∧ (_ ∧ _) ∧ (_ ∧ _) := ⟨hSx.1.1, hSx.2.1.1, hSx.2.2.1.1⟩; go_simp; (try with_reducible rfl))
  (try simp only [Act.put, List.getElem_toArray, List.getElem_cons_succ, List.getElem_cons_zero, List.setIfInBounds_toArray, List.set_cons_succ, List.set_cons_zero])
  refine wpAnyH_take (i := 10) (v := ?_) rfl (by kernel_rfl) (by kernel_rfl) (by kernel_rfl) (fun _ _ _ h => h) (Or.inl ⟨by rfl, ?_⟩) hHeld ?_
  rotate_left
  · (intro wx hSx; obtain ⟨⟨a0, a1, a2, a3⟩, ⟨b0, b1, b2, b3⟩, ⟨e0, e1, e2, e3⟩⟩ : (_ ∧ _) ∧ (_ ∧ _) ∧ (_ ∧ _) := ⟨hSx.1.1, hSx.2.1.1, hSx.2.2.1.1⟩; go_simp; (try with_reducible rfl))
  (try simp only [Act.put, List.getElem_toArray, List.getElem_cons_succ, List.getElem_cons_zero, List.setIfInBounds_toArray, List.set_cons_succ, List.set_cons_zero])
  refine wpAnyH_take (i := 12) (v := ?_) rfl (by kernel_rfl) (by kernel_rfl) (by kernel_rfl) (fun _ _ _ h => h) (Or.inl ⟨by rfl, ?_⟩) hHeld ?_
  rotate_left
  · (intro wx hSx; obtain ⟨⟨a0, a1, a2, a3⟩, ⟨b0, b1, b2, b3⟩, ⟨e0, e1, e2, e3⟩⟩ : (_ ∧ _) ∧ (_ ∧ _) ∧ (_ ∧ _) := ⟨hSx.1.1, hSx.2.1.1, hSx.2.2.1.1⟩; go_simp; (try with_reducible rfl))
  (try simp only [Act.put, List.getElem_toArray, List.getElem_cons_succ, List.getElem_cons_zero, List.setIfInBounds_toArray, List.set_cons_succ, List.set_cons_zero])
  refine wpAnyH_ready (rs := [11]) (by kernel_rfl) (by simp) ?_
  refine AllReadyH.cons rfl (fun K hK => ?_) AllReadyH.nil
  rw [if_pos (by rfl)]
  go_simp
  refine (CII.out _ HH.out.1.2.1.chs).mono ?_
  rintro e w1 ⟨rfl, hb1⟩
  have HH := Lib.hid (HH.out.next hb1)
  (try simp only [])
  refine hK.out _ _ HH.out (fun hHeld => ?_)
  clear hb1
  clear hK K
  (try simp only [Act.put, List.getElem_toArray, List.getElem_cons_succ, List.getElem_cons_zero, List.setIfInBounds_toArray, List.set_cons_succ, List.set_cons_zero])
  refine wpAnyH_ready (rs := [13]) (by kernel_rfl) (by simp) ?_
  refine AllReadyH.cons rfl (fun K hK => ?_) AllReadyH.nil
  rw [if_pos (by rfl)]
  go_simp
  refine (CSI.out _ HH.out.1.2.1.chs).mono ?_
  rintro e w1 ⟨rfl, hb1⟩
  have HH := Lib.hid (HH.out.next hb1)
  (try simp only [])
  refine hK.out _ _ HH.out (fun hHeld => ?_)
  clear hb1
  clear hK K
  (try simp only [Act.put, List.getElem_toArray, List.getElem_cons_succ, List.getElem_cons_zero, List.setIfInBounds_toArray, List.set_cons_succ, List.set_cons_zero])
  refine wpAnyH_take (i := 14) (v := ?_) rfl (by kernel_rfl) (by kernel_rfl) (by kernel_rfl) (fun _ _ _ h => h) (Or.inl ⟨by rfl, ?_⟩) hHeld ?_
  rotate_left
  · (intro wx hSx; obtain ⟨⟨a0, a1, a2, a3⟩, ⟨b0, b1, b2, b3⟩, ⟨e0, e1, e2, e3⟩⟩ : (_ ∧ _) ∧ (_ ∧ _) ∧ (_ ∧ _) := ⟨hSx.1.1, hSx.2.1.1, hSx.2.2.1.1⟩; go_simp; (try with_reducible rfl))
  (try simp only [Act.put, List.getElem_toArray, List.getElem_cons_succ, List.getElem_cons_zero, List.setIfInBounds_toArray, List.set_cons_succ, List.set_cons_zero])
  refine wpAnyH_take (i := 15) (v := ?_) rfl (by kernel_rfl) (by kernel_rfl) (by kernel_rfl) (fun _ _ _ h => h) (Or.inl ⟨by rfl, ?_⟩) hHeld ?_
  rotate_left
  · (intro wx hSx; obtain ⟨⟨a0, a1, a2, a3⟩, ⟨b0, b1, b2, b3⟩, ⟨e0, e1, e2, e3⟩⟩ : (_ ∧ _) ∧ (_ ∧ _) ∧ (_ ∧ _) := ⟨hSx.1.1, hSx.2.1.1, hSx.2.2.1.1⟩; go_simp; (try with_reducible rfl))
  (try simp only [Act.put, List.getElem_toArray, List.getElem_cons_succ, List.getElem_cons_zero, List.setIfInBounds_toArray, List.set_cons_succ, List.set_cons_zero])
  refine wpAnyH_take (i := 16) (v := ?_) rfl (by kernel_rfl) (by kernel_rfl) (by kernel_rfl) (fun _ _ _ h => h) (Or.inl ⟨by rfl, ?_⟩) hHeld ?_
  rotate_left
  · (intro wx hSx; obtain ⟨⟨a0, a1, a2, a3⟩, ⟨b0, b1, b2, b3⟩, ⟨e0, e1, e2, e3⟩⟩ : (_ ∧ _) ∧ (_ ∧ _) ∧ (_ ∧ _) := ⟨hSx.1.1, hSx.2.1.1, hSx.2.2.1.1⟩; go_simp; (try with_reducible rfl))
  (try simp only [Act.put, List.getElem_toArray, List.getElem_cons_succ, List.getElem_cons_zero, List.setIfInBounds_toArray, List.set_cons_succ, List.set_cons_zero])
  refine wpAnyH_take (i := 17) (v := ?_) rfl (by kernel_rfl) (by kernel_rfl) (by kernel_rfl) (fun _ _ _ h => h) (Or.inl ⟨by rfl, ?_⟩) hHeld ?_
  rotate_left
  · (intro wx hSx; obtain ⟨⟨a0, a1, a2, a3⟩, ⟨b0, b1, b2, b3⟩, ⟨e0, e1, e2, e3⟩⟩ : (_ ∧ _) ∧ (_ ∧ _) ∧ (_ ∧ _) := ⟨hSx.1.1, hSx.2.1.1, hSx.2.2.1.1⟩; go_simp; (try with_reducible rfl))
  (try simp only [Act.put, List.getElem_toArray, List.getElem_cons_succ, List.getElem_cons_zero, List.setIfInBounds_toArray, List.set_cons_succ, List.set_cons_zero])
  refine wpAnyH_take (i := 19) (v := ?_) rfl (by kernel_rfl) (by kernel_rfl) (by kernel_rfl) (fun _ _ _ h => h) (Or.inl ⟨by rfl, ?_⟩) hHeld ?_
  rotate_left
  · (intro wx hSx; obtain ⟨⟨a0, a1, a2, a3⟩, ⟨b0, b1, b2, b3⟩, ⟨e0, e1, e2, e3⟩⟩ : (_ ∧ _) ∧ (_ ∧ _) ∧ (_ ∧ _) := ⟨hSx.1.1, hSx.2.1.1, hSx.2.2.1.1⟩; go_simp; (try with_reducible rfl))
  (try simp only [Act.put, List.getElem_toArray, List.getElem_cons_succ, List.getElem_cons_zero, List.setIfInBounds_toArray, List.set_cons_succ, List.set_cons_zero])
  refine wpAnyH_ready (rs := [18]) (by kernel_rfl) (by simp) ?_
  refine AllReadyH.cons rfl (fun K hK => ?_) AllReadyH.nil
  rw [if_pos (by rfl)]
  go_simp
  refine (CIR.out _ HH.out.1.2.1.chs).mono ?_
  rintro e w1 ⟨rfl, hb1⟩
  have HH := Lib.hid (HH.out.next hb1)
  (try simp only [])
  refine hK.out _ _ HH.out (fun hHeld => ?_)
  clear hb1
  clear hK K
  (try simp only [Act.put, List.getElem_toArray, List.getElem_cons_succ, List.getElem_cons_zero, List.setIfInBounds_toArray, List.set_cons_succ, List.set_cons_zero])
  refine wpAnyH_ready (rs := [20]) (by kernel_rfl) (by simp) ?_
  refine AllReadyH.cons rfl (fun K hK => ?_) AllReadyH.nil
  rw [if_pos (by rfl)]
  go_simp
  refine (CSR.out _ HH.out.1.2.1.chs).mono ?_
  rintro e w1 ⟨rfl, hb1⟩
  have HH := Lib.hid (HH.out.next hb1)
  (try simp only [])
  refine hK.out _ _ HH.out (fun hHeld => ?_)
  clear hb1
  clear hK K
  (try simp only [Act.put, List.getElem_toArray, List.getElem_cons_succ, List.getElem_cons_zero, List.setIfInBounds_toArray, List.set_cons_succ, List.set_cons_zero])
  refine wpAnyH_take (i := 21) (v := ?_) rfl (by kernel_rfl) (by kernel_rfl) (by kernel_rfl) (fun _ _ _ h => h) (Or.inl ⟨by rfl, ?_⟩) hHeld ?_
  rotate_left
  · (intro wx hSx; obtain ⟨⟨a0, a1, a2, a3⟩, ⟨b0, b1, b2, b3⟩, ⟨e0, e1, e2, e3⟩⟩ : (_ ∧ _) ∧ (_ ∧ _) ∧ (_ ∧ _) := ⟨hSx.1.1, hSx.2.1.1, hSx.2.2.1.1⟩; go_simp; (try with_reducible rfl))
  (try simp only [Act.put, List.getElem_toArray, List.getElem_cons_succ, List.getElem_cons_zero, List.setIfInBounds_toArray, List.set_cons_succ, List.set_cons_zero])
  refine wpAnyH_take (i := 22) (v := ?_) rfl (by kernel_rfl) (by kernel_rfl) (by kernel_rfl) (fun _ _ _ h => h) (Or.inl ⟨by rfl, ?_⟩) hHeld ?_
  rotate_left
  · (intro wx hSx; obtain ⟨⟨a0, a1, a2, a3⟩, ⟨b0, b1, b2, b3⟩, ⟨e0, e1, e2, e3⟩⟩ : (_ ∧ _) ∧ (_ ∧ _) ∧ (_ ∧ _) := ⟨hSx.1.1, hSx.2.1.1, hSx.2.2.1.1⟩; go_simp; (try with_reducible rfl))
  (try simp only [Act.put, List.getElem_toArray, List.getElem_cons_succ, List.getElem_cons_zero, List.setIfInBounds_toArray, List.set_cons_succ, List.set_cons_zero])
  refine wpAnyH_done (by kernel_rfl) ?_ _
  clear hHeld
  clear CEQ CII ncc nmm nbb
  obtain ⟨bo, hbo⟩ : ∃ bo, decide (okRn r) = bo := ⟨_, rfl⟩
  have HBO := Lib.hid hbo
  rw [hbo] at CSI
  clear hbo
  have HHN := Lib.hid HH.out
  clear HH
  obtain ⟨p0, p1, p2, p3⟩ := HHN.out.1.1
  go_wp2_with fail
  refine (CSI.out _ HHN.out.1.2.1.chs).mono ?_
  rintro e w8 ⟨rfl, hb8⟩
  have HH := Lib.hid (HHN.out.next hb8)
  clear hb8 HHN p0 p1 p2 p3
  go_upto_if 76 with fail
  go_cut [9, 10, 11, 12] (fun _ _ _ _ wx => Below w.heap.size w wx)
  case first =>
    cases bo with
    | false =>
      go_wp2
      go_meet
      exact HH.out.2.2.2
    | true =>
      have hok : okRn r := of_decide_eq_true HBO.out
      have CQ1 := Lib.hid (CP1.out hok)
      have CQ2 := Lib.hid (CP2.out hok)
      have hen := HEN.out hok
      have HP6 : Hid ((pkR r r.base (r.en - r.base)).size ≤ 64) := Lib.hid (by
        rw [pkR_all hok]
        show (peekL r.size r.base r.cs _).toArray.size ≤ 64
        rw [List.size_toArray, peekL_len]
        have h1 := hok.2.2.2.2.1
        have h2 := hok.1.lo
        omega)
      have hw1 : wrap64 (y.en - r.base) = y.en - r.base := by unfold wrap64; omega
      have hw2 : wrap64 (r.en - r.base) = r.en - r.base := by unfold wrap64; omega
      clear hok hen HBO CSI JW JI JR JP JD JN JE CP1 CP2 HEN
      obtain ⟨p0, p1, p2, p3⟩ := HH.out.1.1
      go_wp2_with fail
      refine (CQ1.out _ HH.out.1.2.1.chs).mono ?_
      rintro e w9 ⟨rfl, hb9⟩
      have H9 := Lib.hid (HH.out.next hb9)
      clear hb9 HH CQ1 p0 p1 p2 p3
      obtain ⟨p0, p1, p2, p3⟩ := H9.out.1.1
      obtain ⟨e0, e1, e2, e3⟩ := H9.out.2.2.1.1
      go_wp2_with fail
      refine (CQ2.out _ _ (by omega) _ H9.out.2.2.1.2.1.chs).mono ?_
      rintro e w10 ⟨rfl, hb10⟩
      have H10 := Lib.hid (H9.out.next hb10)
      clear hb10 H9 CQ2 hw1 hw2 p0 p1 p2 p3 e0 e1 e2 e3
      obtain ⟨p0, p1, p2, p3⟩ := H10.out.1.1
      have hcd : c ≤ d.size := by have := HCW.out; omega
      have hs1 : (pkR r r.base (r.en - r.base)).size ≤ 64 := HP6.out
      clear HP6
      generalize pkR r r.base (r.en - r.base) = s1 at *
      have hs2 : (d.extract 0 c).size ≤ 9 := by simp; omega
      have hs3 : ¬ (9223372036854775807 < ((s1.size + (d.extract 0 c).size : Nat) : Int)) := by omega
      have hs4 : ¬ (9223372036854775807 < s1.size + (d.extract 0 c).size) := by omega
      go_wp2_with fail
      refine (CIR.out _ H10.out.1.2.1.chs).mono ?_
      rintro e w11 ⟨rfl, hb11⟩
      have H11 := Lib.hid (H10.out.next hb11)
      have hmin : (if m < (d.size : Int) then m else (d.size : Int)) = (c : Int) := by have := HCW.out; split <;> omega
      have nmin : ((c : Int) != (if m < (d.size : Int) then m else (d.size : Int))) = false := by rw [hmin]; exact bneI _
      clear hb11 H10 hmin p0 p1 p2 p3
      go_wp2
      all_goals (go_meet; exact H11.out.2.2.2)
  case rest =>
    have BL0 : Hid (Below w.heap.size w wc) := Lib.hid hcut
    clear hcut HH HBO CIR CSR CP1 CP2 HEN HCW HIB HX hrm hl6 hlw hc1 hc3 hc5 JW JI JR
    go_wp2_with fail
    refine (draw_peek A len cap _ HL.out (Code.later HC.out BL0.out)).mono ?_
    rintro e wa ⟨u, vu, o, n, rfl, hsu, hou, hnu, hu, hba⟩
    obtain ⟨Au, cu, rfl, hcu, _⟩ := hu.frs
    have hlu := hsu.1
    have HIU := Lib.hid hsu.inI
    have HXU := Lib.hid hsu.2.2.2.2
    clear hsu
    have CPI : Hid (∀ W, Ints W W.heap.size Au u.cs → Calls Try.prog 20 #[rnV u (.slice Au u.cs.length cu), .int .i64 o, .int .i64 n] W fun e w' => e = .returned (.tuple #[.string (pkR u o n), .bool (decide (canP u o n))]) ∧ Below W.heap.size W w') := Lib.hid fun W h => JP.out u o n Au cu W.heap.size W (Nat.le_refl _) h (by omega) (by omega) HIU.out HXU.out hou hnu
    have CPS : Hid (∀ W, Ints W W.heap.size Au u.cs → Calls Try.prog 22 #[rnV u (.slice Au u.cs.length cu), .int .i64 o, .int .i64 n] W fun e w' => e = .returned (.tuple #[.string (pkR u o n), .bool (decide (canP u o n))]) ∧ Below W.heap.size W w') := Lib.hid fun W h => speek u o n Au cu W.heap.size W (Nat.le_refl _) h (by omega) HXU.out hou
    generalize pkR u o n = su at *
    generalize decide (canP u o n) = bu at *
    clear hou hnu HIU HXU JP
    have VU := Lib.hid (VarN.new u 26 (hu.weaken BL0.out.size) (Nat.le_trans BL0.out.size hba.size))
    have BL1 := Lib.hid ((BL0.out.trans (hba.mono BL0.out.size)).alloc (Nat.le_trans BL0.out.size hba.size) (.cells (rnC u.size u.base u.en (.slice Au u.cs.length cu)) 26))
    clear hu hba BL0
    go_upto_region 14 with fail
    generalize wa.alloc (.cells (rnC u.size u.base u.en (.slice Au u.cs.length cu)) 26) = wb at *
    generalize wa.heap.size = ku at *
    obtain ⟨p0, p1, p2, p3⟩ := VU.out.1
    go_wp2_with fail
    refine (CPI.out _ VU.out.2.1.chs).mono ?_
    rintro e wd ⟨rfl, hbwd⟩
    have VU_2 := Lib.hid (VU.out.next hbwd)
    have BL2 := Lib.hid (BL1.out.trans (hbwd.mono BL1.out.size))
    clear hbwd VU BL1 CPI p0 p1 p2 p3
    obtain ⟨p0, p1, p2, p3⟩ := VU_2.out.1
    go_wp2_with fail
    refine (CPS.out _ VU_2.out.2.1.chs).mono ?_
    rintro e we ⟨rfl, hbwe⟩
    have VU_3 := Lib.hid (VU_2.out.next hbwe)
    have BL3 := Lib.hid (BL2.out.trans (hbwe.mono BL2.out.size))
    clear hbwe VU_2 BL2 CPS p0 p1 p2 p3
    clear VU_3
    go_wp2_with fail
    refine (draw_drop A len cap _ HL.out (Code.later HC.out BL3.out)).mono ?_
    rintro e wf ⟨q, vq, t, rfl, hsq, htq, hq, hbf⟩
    obtain ⟨Aq, cq, rfl, hcq, _⟩ := hq.frs
    have hlq := hsq.1
    have HIQ := Lib.hid hsq.inI
    have HXQ := Lib.hid hsq.2.2.2.2
    clear hsq
    have CDI : Hid (∀ W, Ints W W.heap.size Aq q.cs → Calls Try.prog 24 #[rnV q (.slice Aq q.cs.length cq), .int .i64 t] W fun e w' => ∃ v, e = .returned (.tuple #[rnV (drR q t) v, .bool (decide (canD q t))]) ∧ OwnK w' W.heap.size v (drR q t).cs ∧ Below W.heap.size W w') := Lib.hid fun W h => JD.out q t Aq cq W.heap.size W (Nat.le_refl _) h (by omega) (by omega) HIQ.out HXQ.out htq
    have CDS : Hid (∀ W, Ints W W.heap.size Aq q.cs → Calls Try.prog 25 #[rnV q (.slice Aq q.cs.length cq), .int .i64 t] W fun e w' => ∃ v, e = .returned (.tuple #[rnV (drR q t) v, .bool (decide (canD q t))]) ∧ OwnK w' W.heap.size v (drR q t).cs ∧ Below W.heap.size W w') := Lib.hid fun W h => sdropn q t Aq cq W.heap.size W (Nat.le_refl _) h (by omega) HXQ.out
    have hlx : (drR q t).cs.length ≤ 64 := by rw [drR_len]; exact hlq
    generalize drR q t = x at *
    generalize decide (canD q t) = bq at *
    clear htq HIQ HXQ JD
    have VQ := Lib.hid (VarN.new q 26 (hq.weaken BL3.out.size) (Nat.le_trans BL3.out.size hbf.size))
    have BL4 := Lib.hid ((BL3.out.trans (hbf.mono BL3.out.size)).alloc (Nat.le_trans BL3.out.size hbf.size) (.cells (rnC q.size q.base q.en (.slice Aq q.cs.length cq)) 26))
    clear hq hbf BL3
    go_upto_region 17 with fail
    generalize wf.alloc (.cells (rnC q.size q.base q.en (.slice Aq q.cs.length cq)) 26) = wg at *
    generalize wf.heap.size = kq at *
    obtain ⟨p0, p1, p2, p3⟩ := VQ.out.1
    go_wp2_with fail
    refine (CDI.out _ VQ.out.2.1.chs).mono ?_
    rintro e wh ⟨vx, rfl, hx, hbwh⟩
    obtain ⟨Add, cdd, rfl, hcdd, _⟩ := hx.frs
    have VD := Lib.hid (VarN.new x 26 (hx.weaken BL4.out.size) (Nat.le_trans BL4.out.size hbwh.size))
    have VQ_5 := Lib.hid ((VQ.out.next hbwh).alloc (.cells (rnC x.size x.base x.en (.slice Add x.cs.length cdd)) 26))
    have BL5 := Lib.hid ((BL4.out.trans (hbwh.mono BL4.out.size)).alloc (Nat.le_trans BL4.out.size hbwh.size) (.cells (rnC x.size x.base x.en (.slice Add x.cs.length cdd)) 26))
    clear hx hbwh VQ BL4 CDI p0 p1 p2 p3
    go_upto_region 18 with fail
    generalize wh.alloc (.cells (rnC x.size x.base x.en (.slice Add x.cs.length cdd)) 26) = wi at *
    generalize wh.heap.size = kd at *
    obtain ⟨p0, p1, p2, p3⟩ := VQ_5.out.1
    go_wp2_with fail
    refine (CDS.out _ VQ_5.out.2.1.chs).mono ?_
    rintro e wj ⟨vx, rfl, hx, hbwj⟩
    obtain ⟨Aee, cee, rfl, hcee, _⟩ := hx.frs
    have VE := Lib.hid (VarN.new x 26 (hx.weaken BL5.out.size) (Nat.le_trans BL5.out.size hbwj.size))
    have VQ_6 := Lib.hid ((VQ_5.out.next hbwj).alloc (.cells (rnC x.size x.base x.en (.slice Aee x.cs.length cee)) 26))
    have VD_6 := Lib.hid ((VD.out.next hbwj).alloc (.cells (rnC x.size x.base x.en (.slice Aee x.cs.length cee)) 26))
    have BL6 := Lib.hid ((BL5.out.trans (hbwj.mono BL5.out.size)).alloc (Nat.le_trans BL5.out.size hbwj.size) (.cells (rnC x.size x.base x.en (.slice Aee x.cs.length cee)) 26))
    clear hx hbwj VQ_5 VD BL5 CDS p0 p1 p2 p3
    go_upto_region 19 with fail
    generalize wj.alloc (.cells (rnC x.size x.base x.en (.slice Aee x.cs.length cee)) 26) = wk at *
    generalize wj.heap.size = ke at *
    go_wp2_with fail
    refine (draw_new A len cap _ HL.out (Code.later HC.out BL6.out)).mono ?_
    rintro e wl ⟨z, rfl, hz, hbl⟩
    have VD_7 := Lib.hid (VD_6.out.next hbl)
    have VE_7 := Lib.hid (VE.out.next hbl)
    have BL7 := Lib.hid (BL6.out.trans (hbl.mono BL6.out.size))
    clear hbl VD_6 VE BL6
    have CNI : Hid (∀ W, Calls Try.prog 27 #[.int .i64 z] W fun e w' => ∃ v, e = .returned (.tuple #[rnV (nwR z) v, .bool (decide (powR z))]) ∧ OwnK w' W.heap.size v (nwR z).cs ∧ Below W.heap.size W w') := Lib.hid fun W => JN.out z W hz
    have CNS : Hid (∀ W, Calls Try.prog 28 #[.int .i64 z] W fun e w' => ∃ v, e = .returned (.tuple #[rnV (nwR z) v, .bool (decide (powR z))]) ∧ OwnK w' W.heap.size v (nwR z).cs ∧ Below W.heap.size W w') := Lib.hid fun W => snewrn z W
    have hlz := nwR_len z
    generalize nwR z = f at *
    generalize decide (powR z) = bz at *
    clear hz JN
    go_wp2_with fail
    refine (CNI.out _).mono ?_
    rintro e wm ⟨vx, rfl, hx, hbwm⟩
    obtain ⟨Aff, cff, rfl, hcff, _⟩ := hx.frs
    have VF := Lib.hid (VarN.new f 26 (hx.weaken BL7.out.size) (Nat.le_trans BL7.out.size hbwm.size))
    have VD_8 := Lib.hid ((VD_7.out.next hbwm).alloc (.cells (rnC f.size f.base f.en (.slice Aff f.cs.length cff)) 26))
    have VE_8 := Lib.hid ((VE_7.out.next hbwm).alloc (.cells (rnC f.size f.base f.en (.slice Aff f.cs.length cff)) 26))
    have BL8 := Lib.hid ((BL7.out.trans (hbwm.mono BL7.out.size)).alloc (Nat.le_trans BL7.out.size hbwm.size) (.cells (rnC f.size f.base f.en (.slice Aff f.cs.length cff)) 26))
    clear hx hbwm VD_7 VE_7 BL7 CNI
    go_upto_region 21 with fail
    generalize wm.alloc (.cells (rnC f.size f.base f.en (.slice Aff f.cs.length cff)) 26) = wn at *
    generalize wm.heap.size = kf at *
    go_wp2_with fail
    refine (CNS.out _).mono ?_
    rintro e wo ⟨vx, rfl, hx, hbwo⟩
    obtain ⟨Agg, cgg, rfl, hcgg, _⟩ := hx.frs
    have VG := Lib.hid (VarN.new f 26 (hx.weaken BL8.out.size) (Nat.le_trans BL8.out.size hbwo.size))
    have VD_9 := Lib.hid ((VD_8.out.next hbwo).alloc (.cells (rnC f.size f.base f.en (.slice Agg f.cs.length cgg)) 26))
    have VE_9 := Lib.hid ((VE_8.out.next hbwo).alloc (.cells (rnC f.size f.base f.en (.slice Agg f.cs.length cgg)) 26))
    have VF_9 := Lib.hid ((VF.out.next hbwo).alloc (.cells (rnC f.size f.base f.en (.slice Agg f.cs.length cgg)) 26))
    have BL9 := Lib.hid ((BL8.out.trans (hbwo.mono BL8.out.size)).alloc (Nat.le_trans BL8.out.size hbwo.size) (.cells (rnC f.size f.base f.en (.slice Agg f.cs.length cgg)) 26))
    clear hx hbwo VD_8 VE_8 VF BL8 CNS
    go_upto_region 22 with fail
    generalize wo.alloc (.cells (rnC f.size f.base f.en (.slice Agg f.cs.length cgg)) 26) = wp at *
    generalize wo.heap.size = kg at *
    go_wp2_with fail
    refine (draw_eqn A len cap _ HL.out (Code.later HC.out BL9.out)).mono ?_
    rintro e wq ⟨a, b, va, vb, rfl, hsa, hsb, ha, hb, hbq⟩
    obtain ⟨Aa, ca, rfl, hca, _⟩ := ha.frs
    obtain ⟨Ab, cb, rfl, hcb, _⟩ := hb.frs
    have hla := hsa.1
    have hlb := hsb.1
    clear hsa hsb
    have hs7 : (wq.alloc (.cells (rnC a.size a.base a.en (.slice Aa a.cs.length ca)) 26)).heap.size = wq.heap.size + 1 := by simp
    have VA := Lib.hid ((VarN.new a 26 (ha.weaken BL9.out.size) (Nat.le_trans BL9.out.size hbq.size)).alloc (.cells (rnC b.size b.base b.en (.slice Ab b.cs.length cb)) 26))
    have v8 := VarN.new b 26 ((hb.weaken BL9.out.size).alloc (.cells (rnC a.size a.base a.en (.slice Aa a.cs.length ca)) 26)) (by rw [hs7]; exact Nat.le_succ_of_le (Nat.le_trans BL9.out.size hbq.size))
    rw [hs7] at v8
    have VB := Lib.hid v8
    have BB := Lib.hid (((BL9.out.trans (hbq.mono BL9.out.size)).alloc (Nat.le_trans BL9.out.size hbq.size) (.cells (rnC a.size a.base a.en (.slice Aa a.cs.length ca)) 26)).alloc (by rw [hs7]; exact Nat.le_succ_of_le (Nat.le_trans BL9.out.size hbq.size)) (.cells (rnC b.size b.base b.en (.slice Ab b.cs.length cb)) 26))
    have VD_z := Lib.hid (((VD_9.out.next hbq).alloc (.cells (rnC a.size a.base a.en (.slice Aa a.cs.length ca)) 26)).alloc (.cells (rnC b.size b.base b.en (.slice Ab b.cs.length cb)) 26))
    have VE_z := Lib.hid (((VE_9.out.next hbq).alloc (.cells (rnC a.size a.base a.en (.slice Aa a.cs.length ca)) 26)).alloc (.cells (rnC b.size b.base b.en (.slice Ab b.cs.length cb)) 26))
    have VF_z := Lib.hid (((VF_9.out.next hbq).alloc (.cells (rnC a.size a.base a.en (.slice Aa a.cs.length ca)) 26)).alloc (.cells (rnC b.size b.base b.en (.slice Ab b.cs.length cb)) 26))
    have VG_z := Lib.hid (((VG.out.next hbq).alloc (.cells (rnC a.size a.base a.en (.slice Aa a.cs.length ca)) 26)).alloc (.cells (rnC b.size b.base b.en (.slice Ab b.cs.length cb)) 26))
    clear ha hb hbq hs7 v8 HC VD_9 VE_9 VF_9 VG BL9
    go_upto_region 23 with fail
    generalize (wq.alloc (.cells (rnC a.size a.base a.en (.slice Aa a.cs.length ca)) 26)).alloc (.cells (rnC b.size b.base b.en (.slice Ab b.cs.length cb)) 26) = wr at *
    generalize wq.heap.size + 1 = kb at *
    generalize wq.heap.size = ka at *
    have HH := Lib.hid (N6W.next (show N6W w kd x (.slice Add x.cs.length cdd) ke x (.slice Aee x.cs.length cee) kf f (.slice Aff f.cs.length cff) kg f (.slice Agg f.cs.length cgg) ka a (.slice Aa a.cs.length ca) kb b (.slice Ab b.cs.length cb) wr from ⟨VD_z.out, VE_z.out, VF_z.out, VG_z.out, VA.out, VB.out, BB.out⟩) (Below.refl wr.heap.size wr).drew)
    clear VD_z VE_z VF_z VG_z VA VB BB
    have CEX : Hid (∀ (X Y : Option Addr) (cx cy : Nat) W, Ints W W.heap.size X x.cs → Ints W W.heap.size Y x.cs → Calls Try.prog 15 #[rnV x (.slice X x.cs.length cx), rnV x (.slice Y x.cs.length cy)] W fun e w' => e = .returned (.bool true) ∧ Below W.heap.size W w') := Lib.hid fun X Y cx cy W h h' => by
      have h2 := seqrn x x X Y cx cy W.heap.size W (Nat.le_refl _) h h' (by omega)
      rw [decide_eq_true (sameRn_refl x)] at h2
      exact h2
    have CEF : Hid (∀ (X Y : Option Addr) (cx cy : Nat) W, Ints W W.heap.size X f.cs → Ints W W.heap.size Y f.cs → Calls Try.prog 15 #[rnV f (.slice X f.cs.length cx), rnV f (.slice Y f.cs.length cy)] W fun e w' => e = .returned (.bool true) ∧ Below W.heap.size W w') := Lib.hid fun X Y cx cy W h h' => by
      have h2 := seqrn f f X Y cx cy W.heap.size W (Nat.le_refl _) h h' (by omega)
      rw [decide_eq_true (sameRn_refl f)] at h2
      exact h2
    have CEI : Hid (∀ W, Ints W W.heap.size Aa a.cs → Ints W W.heap.size Ab b.cs → Calls Try.prog 30 #[rnV a (.slice Aa a.cs.length ca), rnV b (.slice Ab b.cs.length cb)] W fun e w' => e = .returned (.bool (decide (sameRn a b))) ∧ Below W.heap.size W w') := Lib.hid fun W h h' => JE.out a b Aa Ab ca cb W.heap.size W (Nat.le_refl _) h h' (by omega) (by omega)
    have CES : Hid (∀ W, Ints W W.heap.size Aa a.cs → Ints W W.heap.size Ab b.cs → Calls Try.prog 15 #[rnV a (.slice Aa a.cs.length ca), rnV b (.slice Ab b.cs.length cb)] W fun e w' => e = .returned (.bool (decide (sameRn a b))) ∧ Below W.heap.size W w') := Lib.hid fun W h h' => seqrn a b Aa Ab ca cb W.heap.size W (Nat.le_refl _) h h' (by omega)
    generalize decide (sameRn a b) = be at *
    have q1 := beqB bu
    have q3 := beqB bq
    have q4 := beqB bz
    have q5 := beqB be
    clear JE hla hlb hlx hlz hlq hlu
    refine wp_region_held_drew (S := (N6W w kd x (.slice Add x.cs.length cdd) ke x (.slice Aee x.cs.length cee) kf f (.slice Aff f.cs.length cff) kg f (.slice Agg f.cs.length cgg) ka a (.slice Aa a.cs.length ca) kb b (.slice Ab b.cs.length cb))) (by kernel_rfl) HH.out (fun hHeld => ?_)
    refine wpAnyH_take (i := 0) (v := ?_) rfl (by kernel_rfl) (by kernel_rfl) (by kernel_rfl) (fun _ _ _ h => h) (Or.inl ⟨by rfl, ?_⟩) hHeld ?_
    rotate_left
    · (intro wx hSx; obtain ⟨⟨d0, d1, d2, d3⟩, ⟨e0, e1, e2, e3⟩, ⟨f0, f1, f2, f3⟩, ⟨g0, g1, g2, g3⟩, ⟨a0, a1, a2, a3⟩, ⟨b0, b1, b2, b3⟩⟩ : (_ ∧ _) ∧ (_ ∧ _) ∧ (_ ∧ _) ∧ (_ ∧ _) ∧ (_ ∧ _) ∧ (_ ∧ _) := ⟨hSx.1.1, hSx.2.1.1, hSx.2.2.1.1, hSx.2.2.2.1.1, hSx.2.2.2.2.1.1, hSx.2.2.2.2.2.1.1⟩; go_simp; (try with_reducible rfl))
    (try simp only [Act.put, List.getElem_toArray, List.getElem_cons_zero, List.setIfInBounds_toArray, List.set_cons_succ, List.set_cons_zero])
    refine wpAnyH_take (i := 1) (v := ?_) rfl (by kernel_rfl) (by kernel_rfl) (by kernel_rfl) (fun _ _ _ h => h) (Or.inl ⟨by rfl, ?_⟩) hHeld ?_
    rotate_left
    · (intro wx hSx; obtain ⟨⟨d0, d1, d2, d3⟩, ⟨e0, e1, e2, e3⟩, ⟨f0, f1, f2, f3⟩, ⟨g0, g1, g2, g3⟩, ⟨a0, a1, a2, a3⟩, ⟨b0, b1, b2, b3⟩⟩ : (_ ∧ _) ∧ (_ ∧ _) ∧ (_ ∧ _) ∧ (_ ∧ _) ∧ (_ ∧ _) ∧ (_ ∧ _) := ⟨hSx.1.1, hSx.2.1.1, hSx.2.2.1.1, hSx.2.2.2.1.1, hSx.2.2.2.2.1.1, hSx.2.2.2.2.2.1.1⟩; go_simp; (try with_reducible rfl))
    (try simp only [Act.put, List.getElem_toArray, List.getElem_cons_succ, List.getElem_cons_zero, List.setIfInBounds_toArray, List.set_cons_succ, List.set_cons_zero])
    refine wpAnyH_take (i := 2) (v := ?_) rfl (by kernel_rfl) (by kernel_rfl) (by kernel_rfl) (fun _ _ _ h => h) (Or.inl ⟨by rfl, ?_⟩) hHeld ?_
    rotate_left
    · (intro wx hSx; obtain ⟨⟨d0, d1, d2, d3⟩, ⟨e0, e1, e2, e3⟩, ⟨f0, f1, f2, f3⟩, ⟨g0, g1, g2, g3⟩, ⟨a0, a1, a2, a3⟩, ⟨b0, b1, b2, b3⟩⟩ : (_ ∧ _) ∧ (_ ∧ _) ∧ (_ ∧ _) ∧ (_ ∧ _) ∧ (_ ∧ _) ∧ (_ ∧ _) := ⟨hSx.1.1, hSx.2.1.1, hSx.2.2.1.1, hSx.2.2.2.1.1, hSx.2.2.2.2.1.1, hSx.2.2.2.2.2.1.1⟩; go_simp; (try with_reducible rfl))
    (try simp only [Act.put, List.getElem_toArray, List.getElem_cons_succ, List.getElem_cons_zero, List.setIfInBounds_toArray, List.set_cons_succ, List.set_cons_zero])
    refine wpAnyH_take (i := 3) (v := ?_) rfl (by kernel_rfl) (by kernel_rfl) (by kernel_rfl) (fun _ _ _ h => h) (Or.inl ⟨by rfl, ?_⟩) hHeld ?_
    rotate_left
    · (intro wx hSx; obtain ⟨⟨d0, d1, d2, d3⟩, ⟨e0, e1, e2, e3⟩, ⟨f0, f1, f2, f3⟩, ⟨g0, g1, g2, g3⟩, ⟨a0, a1, a2, a3⟩, ⟨b0, b1, b2, b3⟩⟩ : (_ ∧ _) ∧ (_ ∧ _) ∧ (_ ∧ _) ∧ (_ ∧ _) ∧ (_ ∧ _) ∧ (_ ∧ _) := ⟨hSx.1.1, hSx.2.1.1, hSx.2.2.1.1, hSx.2.2.2.1.1, hSx.2.2.2.2.1.1, hSx.2.2.2.2.2.1.1⟩; go_simp; (try with_reducible rfl))
    (try simp only [Act.put, List.getElem_toArray, List.getElem_cons_succ, List.getElem_cons_zero, List.setIfInBounds_toArray, List.set_cons_succ, List.set_cons_zero])
    refine wpAnyH_take (i := 4) (v := ?_) rfl (by kernel_rfl) (by kernel_rfl) (by kernel_rfl) (fun _ _ _ h => h) (Or.inl ⟨by rfl, ?_⟩) hHeld ?_
    rotate_left
    · (intro wx hSx; obtain ⟨⟨d0, d1, d2, d3⟩, ⟨e0, e1, e2, e3⟩, ⟨f0, f1, f2, f3⟩, ⟨g0, g1, g2, g3⟩, ⟨a0, a1, a2, a3⟩, ⟨b0, b1, b2, b3⟩⟩ : (_ ∧ _) ∧ (_ ∧ _) ∧ (_ ∧ _) ∧ (_ ∧ _) ∧ (_ ∧ _) ∧ (_ ∧ _) := ⟨hSx.1.1, hSx.2.1.1, hSx.2.2.1.1, hSx.2.2.2.1.1, hSx.2.2.2.2.1.1, hSx.2.2.2.2.2.1.1⟩; go_simp; (try with_reducible rfl))
    (try simp only [Act.put, List.getElem_toArray, List.getElem_cons_succ, List.getElem_cons_zero, List.setIfInBounds_toArray, List.set_cons_succ, List.set_cons_zero])
    refine wpAnyH_take (i := 5) (v := ?_) rfl (by kernel_rfl) (by kernel_rfl) (by kernel_rfl) (fun _ _ _ h => h) (Or.inl ⟨by rfl, ?_⟩) hHeld ?_
    rotate_left
    · (intro wx hSx; obtain ⟨⟨d0, d1, d2, d3⟩, ⟨e0, e1, e2, e3⟩, ⟨f0, f1, f2, f3⟩, ⟨g0, g1, g2, g3⟩, ⟨a0, a1, a2, a3⟩, ⟨b0, b1, b2, b3⟩⟩ : (_ ∧ _) ∧ (_ ∧ _) ∧ (_ ∧ _) ∧ (_ ∧ _) ∧ (_ ∧ _) ∧ (_ ∧ _) := ⟨hSx.1.1, hSx.2.1.1, hSx.2.2.1.1, hSx.2.2.2.1.1, hSx.2.2.2.2.1.1, hSx.2.2.2.2.2.1.1⟩; go_simp; (try with_reducible rfl))
    (try simp only [Act.put, List.getElem_toArray, List.getElem_cons_succ, List.getElem_cons_zero, List.setIfInBounds_toArray, List.set_cons_succ, List.set_cons_zero])
    refine wpAnyH_take (i := 6) (v := ?_) rfl (by kernel_rfl) (by kernel_rfl) (by kernel_rfl) (fun _ _ _ h => h) (Or.inl ⟨by rfl, ?_⟩) hHeld ?_
    rotate_left
    · (intro wx hSx; obtain ⟨⟨d0, d1, d2, d3⟩, ⟨e0, e1, e2, e3⟩, ⟨f0, f1, f2, f3⟩, ⟨g0, g1, g2, g3⟩, ⟨a0, a1, a2, a3⟩, ⟨b0, b1, b2, b3⟩⟩ : (_ ∧ _) ∧ (_ ∧ _) ∧ (_ ∧ _) ∧ (_ ∧ _) ∧ (_ ∧ _) ∧ (_ ∧ _) := ⟨hSx.1.1, hSx.2.1.1, hSx.2.2.1.1, hSx.2.2.2.1.1, hSx.2.2.2.2.1.1, hSx.2.2.2.2.2.1.1⟩; go_simp; (try with_reducible rfl))
    (try simp only [Act.put, List.getElem_toArray, List.getElem_cons_succ, List.getElem_cons_zero, List.setIfInBounds_toArray, List.set_cons_succ, List.set_cons_zero])
    refine wpAnyH_take (i := 7) (v := ?_) rfl (by kernel_rfl) (by kernel_rfl) (by kernel_rfl) (fun _ _ _ h => h) (Or.inl ⟨by rfl, ?_⟩) hHeld ?_
    rotate_left
    · (intro wx hSx; obtain ⟨⟨d0, d1, d2, d3⟩, ⟨e0, e1, e2, e3⟩, ⟨f0, f1, f2, f3⟩, ⟨g0, g1, g2, g3⟩, ⟨a0, a1, a2, a3⟩, ⟨b0, b1, b2, b3⟩⟩ : (_ ∧ _) ∧ (_ ∧ _) ∧ (_ ∧ _) ∧ (_ ∧ _) ∧ (_ ∧ _) ∧ (_ ∧ _) := ⟨hSx.1.1, hSx.2.1.1, hSx.2.2.1.1, hSx.2.2.2.1.1, hSx.2.2.2.2.1.1, hSx.2.2.2.2.2.1.1⟩; go_simp; (try with_reducible rfl))
    (try simp only [Act.put, List.getElem_toArray, List.getElem_cons_succ, List.getElem_cons_zero, List.setIfInBounds_toArray, List.set_cons_succ, List.set_cons_zero])
    refine wpAnyH_take (i := 8) (v := ?_) rfl (by kernel_rfl) (by kernel_rfl) (by kernel_rfl) (fun _ _ _ h => h) (Or.inl ⟨by rfl, ?_⟩) hHeld ?_
    rotate_left
    · (intro wx hSx; obtain ⟨⟨d0, d1, d2, d3⟩, ⟨e0, e1, e2, e3⟩, ⟨f0, f1, f2, f3⟩, ⟨g0, g1, g2, g3⟩, ⟨a0, a1, a2, a3⟩, ⟨b0, b1, b2, b3⟩⟩ : (_ ∧ _) ∧ (_ ∧ _) ∧ (_ ∧ _) ∧ (_ ∧ _) ∧ (_ ∧ _) ∧ (_ ∧ _) := ⟨hSx.1.1, hSx.2.1.1, hSx.2.2.1.1, hSx.2.2.2.1.1, hSx.2.2.2.2.1.1, hSx.2.2.2.2.2.1.1⟩; go_simp; (try with_reducible rfl))
    (try simp only [Act.put, List.getElem_toArray, List.getElem_cons_succ, List.getElem_cons_zero, List.setIfInBounds_toArray, List.set_cons_succ, List.set_cons_zero])
    refine wpAnyH_take (i := 9) (v := ?_) rfl (by kernel_rfl) (by kernel_rfl) (by kernel_rfl) (fun _ _ _ h => h) (Or.inl ⟨by rfl, ?_⟩) hHeld ?_
    rotate_left
    · (intro wx hSx; obtain ⟨⟨d0, d1, d2, d3⟩, ⟨e0, e1, e2, e3⟩, ⟨f0, f1, f2, f3⟩, ⟨g0, g1, g2, g3⟩, ⟨a0, a1, a2, a3⟩, ⟨b0, b1, b2, b3⟩⟩ : (_ ∧ _) ∧ (_ ∧ _) ∧ (_ ∧ _) ∧ (_ ∧ _) ∧ (_ ∧ _) ∧ (_ ∧ _) := ⟨hSx.1.1, hSx.2.1.1, hSx.2.2.1.1, hSx.2.2.2.1.1, hSx.2.2.2.2.1.1, hSx.2.2.2.2.2.1.1⟩; go_simp; (try with_reducible rfl))
    (try simp only [Act.put, List.getElem_toArray, List.getElem_cons_succ, List.getElem_cons_zero, List.setIfInBounds_toArray, List.set_cons_succ, List.set_cons_zero])
    refine wpAnyH_take (i := 10) (v := ?_) rfl (by kernel_rfl) (by kernel_rfl) (by kernel_rfl) (fun _ _ _ h => h) (Or.inl ⟨by rfl, ?_⟩) hHeld ?_
    rotate_left
    · (intro wx hSx; obtain ⟨⟨d0, d1, d2, d3⟩, ⟨e0, e1, e2, e3⟩, ⟨f0, f1, f2, f3⟩, ⟨g0, g1, g2, g3⟩, ⟨a0, a1, a2, a3⟩, ⟨b0, b1, b2, b3⟩⟩ : (_ ∧ _) ∧ (_ ∧ _) ∧ (_ ∧ _) ∧ (_ ∧ _) ∧ (_ ∧ _) ∧ (_ ∧ _) := ⟨hSx.1.1, hSx.2.1.1, hSx.2.2.1.1, hSx.2.2.2.1.1, hSx.2.2.2.2.1.1, hSx.2.2.2.2.2.1.1⟩; go_simp; (try with_reducible rfl))
    (try simp only [Act.put, List.getElem_toArray, List.getElem_cons_succ, List.getElem_cons_zero, List.setIfInBounds_toArray, List.set_cons_succ, List.set_cons_zero])
    refine wpAnyH_take (i := 11) (v := ?_) rfl (by kernel_rfl) (by kernel_rfl) (by kernel_rfl) (fun _ _ _ h => h) (Or.inl ⟨by rfl, ?_⟩) hHeld ?_
    rotate_left
    · (intro wx hSx; obtain ⟨⟨d0, d1, d2, d3⟩, ⟨e0, e1, e2, e3⟩, ⟨f0, f1, f2, f3⟩, ⟨g0, g1, g2, g3⟩, ⟨a0, a1, a2, a3⟩, ⟨b0, b1, b2, b3⟩⟩ : (_ ∧ _) ∧ (_ ∧ _) ∧ (_ ∧ _) ∧ (_ ∧ _) ∧ (_ ∧ _) ∧ (_ ∧ _) := ⟨hSx.1.1, hSx.2.1.1, hSx.2.2.1.1, hSx.2.2.2.1.1, hSx.2.2.2.2.1.1, hSx.2.2.2.2.2.1.1⟩; go_simp; (try with_reducible rfl))
    (try simp only [Act.put, List.getElem_toArray, List.getElem_cons_succ, List.getElem_cons_zero, List.setIfInBounds_toArray, List.set_cons_succ, List.set_cons_zero])
    refine wpAnyH_take (i := 12) (v := ?_) rfl (by kernel_rfl) (by kernel_rfl) (by kernel_rfl) (fun _ _ _ h => h) (Or.inl ⟨by rfl, ?_⟩) hHeld ?_
    rotate_left
    · (intro wx hSx; obtain ⟨⟨d0, d1, d2, d3⟩, ⟨e0, e1, e2, e3⟩, ⟨f0, f1, f2, f3⟩, ⟨g0, g1, g2, g3⟩, ⟨a0, a1, a2, a3⟩, ⟨b0, b1, b2, b3⟩⟩ : (_ ∧ _) ∧ (_ ∧ _) ∧ (_ ∧ _) ∧ (_ ∧ _) ∧ (_ ∧ _) ∧ (_ ∧ _) := ⟨hSx.1.1, hSx.2.1.1, hSx.2.2.1.1, hSx.2.2.2.1.1, hSx.2.2.2.2.1.1, hSx.2.2.2.2.2.1.1⟩; go_simp; (try with_reducible rfl))
    (try simp only [Act.put, List.getElem_toArray, List.getElem_cons_succ, List.getElem_cons_zero, List.setIfInBounds_toArray, List.set_cons_succ, List.set_cons_zero])
    refine wpAnyH_take (i := 13) (v := ?_) rfl (by kernel_rfl) (by kernel_rfl) (by kernel_rfl) (fun _ _ _ h => h) (Or.inl ⟨by rfl, ?_⟩) hHeld ?_
    rotate_left
    · (intro wx hSx; obtain ⟨⟨d0, d1, d2, d3⟩, ⟨e0, e1, e2, e3⟩, ⟨f0, f1, f2, f3⟩, ⟨g0, g1, g2, g3⟩, ⟨a0, a1, a2, a3⟩, ⟨b0, b1, b2, b3⟩⟩ : (_ ∧ _) ∧ (_ ∧ _) ∧ (_ ∧ _) ∧ (_ ∧ _) ∧ (_ ∧ _) ∧ (_ ∧ _) := ⟨hSx.1.1, hSx.2.1.1, hSx.2.2.1.1, hSx.2.2.2.1.1, hSx.2.2.2.2.1.1, hSx.2.2.2.2.2.1.1⟩; go_simp; (try with_reducible rfl))
    (try simp only [Act.put, List.getElem_toArray, List.getElem_cons_succ, List.getElem_cons_zero, List.setIfInBounds_toArray, List.set_cons_succ, List.set_cons_zero])
    refine wpAnyH_take (i := 14) (v := ?_) rfl (by kernel_rfl) (by kernel_rfl) (by kernel_rfl) (fun _ _ _ h => h) (Or.inl ⟨by rfl, ?_⟩) hHeld ?_
    rotate_left
    · (intro wx hSx; obtain ⟨⟨d0, d1, d2, d3⟩, ⟨e0, e1, e2, e3⟩, ⟨f0, f1, f2, f3⟩, ⟨g0, g1, g2, g3⟩, ⟨a0, a1, a2, a3⟩, ⟨b0, b1, b2, b3⟩⟩ : (_ ∧ _) ∧ (_ ∧ _) ∧ (_ ∧ _) ∧ (_ ∧ _) ∧ (_ ∧ _) ∧ (_ ∧ _) := ⟨hSx.1.1, hSx.2.1.1, hSx.2.2.1.1, hSx.2.2.2.1.1, hSx.2.2.2.2.1.1, hSx.2.2.2.2.2.1.1⟩; go_simp; (try with_reducible rfl))
    (try simp only [Act.put, List.getElem_toArray, List.getElem_cons_succ, List.getElem_cons_zero, List.setIfInBounds_toArray, List.set_cons_succ, List.set_cons_zero])
    refine wpAnyH_take (i := 15) (v := ?_) rfl (by kernel_rfl) (by kernel_rfl) (by kernel_rfl) (fun _ _ _ h => h) (Or.inl ⟨by rfl, ?_⟩) hHeld ?_
    rotate_left
    · (intro wx hSx; obtain ⟨⟨d0, d1, d2, d3⟩, ⟨e0, e1, e2, e3⟩, ⟨f0, f1, f2, f3⟩, ⟨g0, g1, g2, g3⟩, ⟨a0, a1, a2, a3⟩, ⟨b0, b1, b2, b3⟩⟩ : (_ ∧ _) ∧ (_ ∧ _) ∧ (_ ∧ _) ∧ (_ ∧ _) ∧ (_ ∧ _) ∧ (_ ∧ _) := ⟨hSx.1.1, hSx.2.1.1, hSx.2.2.1.1, hSx.2.2.2.1.1, hSx.2.2.2.2.1.1, hSx.2.2.2.2.2.1.1⟩; go_simp; (try with_reducible rfl))
    (try simp only [Act.put, List.getElem_toArray, List.getElem_cons_succ, List.getElem_cons_zero, List.setIfInBounds_toArray, List.set_cons_succ, List.set_cons_zero])
    refine wpAnyH_ready (rs := [16]) (by kernel_rfl) (by simp) ?_
    refine AllReadyH.cons rfl (fun K hK => ?_) AllReadyH.nil
    rw [if_pos (by rfl)]
    go_simp
    refine (CEX.out _ _ _ _ _ HH.out.1.2.1.chs HH.out.2.1.2.1.chs).mono ?_
    rintro e w1 ⟨rfl, hb1⟩
    have HH := Lib.hid (HH.out.next hb1)
    (try simp only [])
    refine hK.out _ _ HH.out (fun hHeld => ?_)
    clear hb1
    clear hK K
    (try simp only [Act.put, List.getElem_toArray, List.getElem_cons_succ, List.getElem_cons_zero, List.setIfInBounds_toArray, List.set_cons_succ, List.set_cons_zero])
    refine wpAnyH_take (i := 17) (v := ?_) rfl (by kernel_rfl) (by kernel_rfl) (by kernel_rfl) (fun _ _ _ h => h) (Or.inl ⟨by rfl, ?_⟩) hHeld ?_
    rotate_left
    · (intro wx hSx; obtain ⟨⟨d0, d1, d2, d3⟩, ⟨e0, e1, e2, e3⟩, ⟨f0, f1, f2, f3⟩, ⟨g0, g1, g2, g3⟩, ⟨a0, a1, a2, a3⟩, ⟨b0, b1, b2, b3⟩⟩ : (_ ∧ _) ∧ (_ ∧ _) ∧ (_ ∧ _) ∧ (_ ∧ _) ∧ (_ ∧ _) ∧ (_ ∧ _) := ⟨hSx.1.1, hSx.2.1.1, hSx.2.2.1.1, hSx.2.2.2.1.1, hSx.2.2.2.2.1.1, hSx.2.2.2.2.2.1.1⟩; go_simp; (try with_reducible rfl))
    (try simp only [Act.put, List.getElem_toArray, List.getElem_cons_succ, List.getElem_cons_zero, List.setIfInBounds_toArray, List.set_cons_succ, List.set_cons_zero])
    refine wpAnyH_take (i := 18) (v := ?_) rfl (by kernel_rfl) (by kernel_rfl) (by kernel_rfl) (fun _ _ _ h => h) (Or.inl ⟨by rfl, ?_⟩) hHeld ?_
    rotate_left
    · (intro wx hSx; obtain ⟨⟨d0, d1, d2, d3⟩, ⟨e0, e1, e2, e3⟩, ⟨f0, f1, f2, f3⟩, ⟨g0, g1, g2, g3⟩, ⟨a0, a1, a2, a3⟩, ⟨b0, b1, b2, b3⟩⟩ : (_ ∧ _) ∧ (_ ∧ _) ∧ (_ ∧ _) ∧ (_ ∧ _) ∧ (_ ∧ _) ∧ (_ ∧ _) := ⟨hSx.1.1, hSx.2.1.1, hSx.2.2.1.1, hSx.2.2.2.1.1, hSx.2.2.2.2.1.1, hSx.2.2.2.2.2.1.1⟩; go_simp; (try with_reducible rfl))
    (try simp only [Act.put, List.getElem_toArray, List.getElem_cons_succ, List.getElem_cons_zero, List.setIfInBounds_toArray, List.set_cons_succ, List.set_cons_zero])
    refine wpAnyH_take (i := 19) (v := ?_) rfl (by kernel_rfl) (by kernel_rfl) (by kernel_rfl) (fun _ _ _ h => h) (Or.inl ⟨by rfl, ?_⟩) hHeld ?_
    rotate_left
    · (intro wx hSx; obtain ⟨⟨d0, d1, d2, d3⟩, ⟨e0, e1, e2, e3⟩, ⟨f0, f1, f2, f3⟩, ⟨g0, g1, g2, g3⟩, ⟨a0, a1, a2, a3⟩, ⟨b0, b1, b2, b3⟩⟩ : (_ ∧ _) ∧ (_ ∧ _) ∧ (_ ∧ _) ∧ (_ ∧ _) ∧ (_ ∧ _) ∧ (_ ∧ _) := ⟨hSx.1.1, hSx.2.1.1, hSx.2.2.1.1, hSx.2.2.2.1.1, hSx.2.2.2.2.1.1, hSx.2.2.2.2.2.1.1⟩; go_simp; (try with_reducible rfl))
    (try simp only [Act.put, List.getElem_toArray, List.getElem_cons_succ, List.getElem_cons_zero, List.setIfInBounds_toArray, List.set_cons_succ, List.set_cons_zero])
    refine wpAnyH_take (i := 20) (v := ?_) rfl (by kernel_rfl) (by kernel_rfl) (by kernel_rfl) (fun _ _ _ h => h) (Or.inl ⟨by rfl, ?_⟩) hHeld ?_
    rotate_left
    · (intro wx hSx; obtain ⟨⟨d0, d1, d2, d3⟩, ⟨e0, e1, e2, e3⟩, ⟨f0, f1, f2, f3⟩, ⟨g0, g1, g2, g3⟩, ⟨a0, a1, a2, a3⟩, ⟨b0, b1, b2, b3⟩⟩ : (_ ∧ _) ∧ (_ ∧ _) ∧ (_ ∧ _) ∧ (_ ∧ _) ∧ (_ ∧ _) ∧ (_ ∧ _) := ⟨hSx.1.1, hSx.2.1.1, hSx.2.2.1.1, hSx.2.2.2.1.1, hSx.2.2.2.2.1.1, hSx.2.2.2.2.2.1.1⟩; go_simp; (try with_reducible rfl))
    (try simp only [Act.put, List.getElem_toArray, List.getElem_cons_succ, List.getElem_cons_zero, List.setIfInBounds_toArray, List.set_cons_succ, List.set_cons_zero])
    refine wpAnyH_take (i := 21) (v := ?_) rfl (by kernel_rfl) (by kernel_rfl) (by kernel_rfl) (fun _ _ _ h => h) (Or.inl ⟨by rfl, ?_⟩) hHeld ?_
    rotate_left
    · (intro wx hSx; obtain ⟨⟨d0, d1, d2, d3⟩, ⟨e0, e1, e2, e3⟩, ⟨f0, f1, f2, f3⟩, ⟨g0, g1, g2, g3⟩, ⟨a0, a1, a2, a3⟩, ⟨b0, b1, b2, b3⟩⟩ : (_ ∧ _) ∧ (_ ∧ _) ∧ (_ ∧ _) ∧ (_ ∧ _) ∧ (_ ∧ _) ∧ (_ ∧ _) := ⟨hSx.1.1, hSx.2.1.1, hSx.2.2.1.1, hSx.2.2.2.1.1, hSx.2.2.2.2.1.1, hSx.2.2.2.2.2.1.1⟩; go_simp; (try with_reducible rfl))
    (try simp only [Act.put, List.getElem_toArray, List.getElem_cons_succ, List.getElem_cons_zero, List.setIfInBounds_toArray, List.set_cons_succ, List.set_cons_zero])
    refine wpAnyH_take (i := 22) (v := ?_) rfl (by kernel_rfl) (by kernel_rfl) (by kernel_rfl) (fun _ _ _ h => h) (Or.inl ⟨by rfl, ?_⟩) hHeld ?_
    rotate_left
    · (intro wx hSx; obtain ⟨⟨d0, d1, d2, d3⟩, ⟨e0, e1, e2, e3⟩, ⟨f0, f1, f2, f3⟩, ⟨g0, g1, g2, g3⟩, ⟨a0, a1, a2, a3⟩, ⟨b0, b1, b2, b3⟩⟩ : (_ ∧ _) ∧ (_ ∧ _) ∧ (_ ∧ _) ∧ (_ ∧ _) ∧ (_ ∧ _) ∧ (_ ∧ _) := ⟨hSx.1.1, hSx.2.1.1, hSx.2.2.1.1, hSx.2.2.2.1.1, hSx.2.2.2.2.1.1, hSx.2.2.2.2.2.1.1⟩; go_simp; (try with_reducible rfl))
    (try simp only [Act.put, List.getElem_toArray, List.getElem_cons_succ, List.getElem_cons_zero, List.setIfInBounds_toArray, List.set_cons_succ, List.set_cons_zero])
    refine wpAnyH_take (i := 23) (v := ?_) rfl (by kernel_rfl) (by kernel_rfl) (by kernel_rfl) (fun _ _ _ h => h) (Or.inl ⟨by rfl, ?_⟩) hHeld ?_
    rotate_left
    · (intro wx hSx; obtain ⟨⟨d0, d1, d2, d3⟩, ⟨e0, e1, e2, e3⟩, ⟨f0, f1, f2, f3⟩, ⟨g0, g1, g2, g3⟩, ⟨a0, a1, a2, a3⟩, ⟨b0, b1, b2, b3⟩⟩ : (_ ∧ _) ∧ (_ ∧ _) ∧ (_ ∧ _) ∧ (_ ∧ _) ∧ (_ ∧ _) ∧ (_ ∧ _) := ⟨hSx.1.1, hSx.2.1.1, hSx.2.2.1.1, hSx.2.2.2.1.1, hSx.2.2.2.2.1.1, hSx.2.2.2.2.2.1.1⟩; go_simp; (try with_reducible rfl))
    (try simp only [Act.put, List.getElem_toArray, List.getElem_cons_succ, List.getElem_cons_zero, List.setIfInBounds_toArray, List.set_cons_succ, List.set_cons_zero])
    refine wpAnyH_take (i := 24) (v := ?_) rfl (by kernel_rfl) (by kernel_rfl) (by kernel_rfl) (fun _ _ _ h => h) (Or.inl ⟨by rfl, ?_⟩) hHeld ?_
    rotate_left
    · (intro wx hSx; obtain ⟨⟨d0, d1, d2, d3⟩, ⟨e0, e1, e2, e3⟩, ⟨f0, f1, f2, f3⟩, ⟨g0, g1, g2, g3⟩, ⟨a0, a1, a2, a3⟩, ⟨b0, b1, b2, b3⟩⟩ : (_ ∧ _) ∧ (_ ∧ _) ∧ (_ ∧ _) ∧ (_ ∧ _) ∧ (_ ∧ _) ∧ (_ ∧ _) := ⟨hSx.1.1, hSx.2.1.1, hSx.2.2.1.1, hSx.2.2.2.1.1, hSx.2.2.2.2.1.1, hSx.2.2.2.2.2.1.1⟩; go_simp; (try with_reducible rfl))
    (try simp only [Act.put, List.getElem_toArray, List.getElem_cons_succ, List.getElem_cons_zero, List.setIfInBounds_toArray, List.set_cons_succ, List.set_cons_zero])
    refine wpAnyH_take (i := 25) (v := ?_) rfl (by kernel_rfl) (by kernel_rfl) (by kernel_rfl) (fun _ _ _ h => h) (Or.inl ⟨by rfl, ?_⟩) hHeld ?_
    rotate_left
    · (intro wx hSx; obtain ⟨⟨d0, d1, d2, d3⟩, ⟨e0, e1, e2, e3⟩, ⟨f0, f1, f2, f3⟩, ⟨g0, g1, g2, g3⟩, ⟨a0, a1, a2, a3⟩, ⟨b0, b1, b2, b3⟩⟩ : (_ ∧ _) ∧ (_ ∧ _) ∧ (_ ∧ _) ∧ (_ ∧ _) ∧ (_ ∧ _) ∧ (_ ∧ _) := ⟨hSx.1.1, hSx.2.1.1, hSx.2.2.1.1, hSx.2.2.2.1.1, hSx.2.2.2.2.1.1, hSx.2.2.2.2.2.1.1⟩; go_simp; (try with_reducible rfl))
    (try simp only [Act.put, List.getElem_toArray, List.getElem_cons_succ, List.getElem_cons_zero, List.setIfInBounds_toArray, List.set_cons_succ, List.set_cons_zero])
    refine wpAnyH_ready (rs := [26]) (by kernel_rfl) (by simp) ?_
    refine AllReadyH.cons rfl (fun K hK => ?_) AllReadyH.nil
    rw [if_pos (by rfl)]
    go_simp
    refine (CEF.out _ _ _ _ _ HH.out.2.2.1.2.1.chs HH.out.2.2.2.1.2.1.chs).mono ?_
    rintro e w1 ⟨rfl, hb1⟩
    have HH := Lib.hid (HH.out.next hb1)
    (try simp only [])
    refine hK.out _ _ HH.out (fun hHeld => ?_)
    clear hb1
    clear hK K
    (try simp only [Act.put, List.getElem_toArray, List.getElem_cons_succ, List.getElem_cons_zero, List.setIfInBounds_toArray, List.set_cons_succ, List.set_cons_zero])
    refine wpAnyH_take (i := 27) (v := ?_) rfl (by kernel_rfl) (by kernel_rfl) (by kernel_rfl) (fun _ _ _ h => h) (Or.inl ⟨by rfl, ?_⟩) hHeld ?_
    rotate_left
    · (intro wx hSx; obtain ⟨⟨d0, d1, d2, d3⟩, ⟨e0, e1, e2, e3⟩, ⟨f0, f1, f2, f3⟩, ⟨g0, g1, g2, g3⟩, ⟨a0, a1, a2, a3⟩, ⟨b0, b1, b2, b3⟩⟩ : (_ ∧ _) ∧ (_ ∧ _) ∧ (_ ∧ _) ∧ (_ ∧ _) ∧ (_ ∧ _) ∧ (_ ∧ _) := ⟨hSx.1.1, hSx.2.1.1, hSx.2.2.1.1, hSx.2.2.2.1.1, hSx.2.2.2.2.1.1, hSx.2.2.2.2.2.1.1⟩; go_simp; (try with_reducible rfl))
    (try simp only [Act.put, List.getElem_toArray, List.getElem_cons_succ, List.getElem_cons_zero, List.setIfInBounds_toArray, List.set_cons_succ, List.set_cons_zero])
    refine wpAnyH_take (i := 28) (v := ?_) rfl (by kernel_rfl) (by kernel_rfl) (by kernel_rfl) (fun _ _ _ h => h) (Or.inl ⟨by rfl, ?_⟩) hHeld ?_
    rotate_left
    · (intro wx hSx; obtain ⟨⟨d0, d1, d2, d3⟩, ⟨e0, e1, e2, e3⟩, ⟨f0, f1, f2, f3⟩, ⟨g0, g1, g2, g3⟩, ⟨a0, a1, a2, a3⟩, ⟨b0, b1, b2, b3⟩⟩ : (_ ∧ _) ∧ (_ ∧ _) ∧ (_ ∧ _) ∧ (_ ∧ _) ∧ (_ ∧ _) ∧ (_ ∧ _) := ⟨hSx.1.1, hSx.2.1.1, hSx.2.2.1.1, hSx.2.2.2.1.1, hSx.2.2.2.2.1.1, hSx.2.2.2.2.2.1.1⟩; go_simp; (try with_reducible rfl))
    (try simp only [Act.put, List.getElem_toArray, List.getElem_cons_succ, List.getElem_cons_zero, List.setIfInBounds_toArray, List.set_cons_succ, List.set_cons_zero])
    refine wpAnyH_take (i := 29) (v := ?_) rfl (by kernel_rfl) (by kernel_rfl) (by kernel_rfl) (fun _ _ _ h => h) (Or.inl ⟨by rfl, ?_⟩) hHeld ?_
    rotate_left
    · (intro wx hSx; obtain ⟨⟨d0, d1, d2, d3⟩, ⟨e0, e1, e2, e3⟩, ⟨f0, f1, f2, f3⟩, ⟨g0, g1, g2, g3⟩, ⟨a0, a1, a2, a3⟩, ⟨b0, b1, b2, b3⟩⟩ : (_ ∧ _) ∧ (_ ∧ _) ∧ (_ ∧ _) ∧ (_ ∧ _) ∧ (_ ∧ _) ∧ (_ ∧ _) := ⟨hSx.1.1, hSx.2.1.1, hSx.2.2.1.1, hSx.2.2.2.1.1, hSx.2.2.2.2.1.1, hSx.2.2.2.2.2.1.1⟩; go_simp; (try with_reducible rfl))
    (try simp only [Act.put, List.getElem_toArray, List.getElem_cons_succ, List.getElem_cons_zero, List.setIfInBounds_toArray, List.set_cons_succ, List.set_cons_zero])
    refine wpAnyH_take (i := 30) (v := ?_) rfl (by kernel_rfl) (by kernel_rfl) (by kernel_rfl) (fun _ _ _ h => h) (Or.inl ⟨by rfl, ?_⟩) hHeld ?_
    rotate_left
    · (intro wx hSx; obtain ⟨⟨d0, d1, d2, d3⟩, ⟨e0, e1, e2, e3⟩, ⟨f0, f1, f2, f3⟩, ⟨g0, g1, g2, g3⟩, ⟨a0, a1, a2, a3⟩, ⟨b0, b1, b2, b3⟩⟩ : (_ ∧ _) ∧ (_ ∧ _) ∧ (_ ∧ _) ∧ (_ ∧ _) ∧ (_ ∧ _) ∧ (_ ∧ _) := ⟨hSx.1.1, hSx.2.1.1, hSx.2.2.1.1, hSx.2.2.2.1.1, hSx.2.2.2.2.1.1, hSx.2.2.2.2.2.1.1⟩; go_simp; (try with_reducible rfl))
    (try simp only [Act.put, List.getElem_toArray, List.getElem_cons_succ, List.getElem_cons_zero, List.setIfInBounds_toArray, List.set_cons_succ, List.set_cons_zero])
    refine wpAnyH_take (i := 32) (v := ?_) rfl (by kernel_rfl) (by kernel_rfl) (by kernel_rfl) (fun _ _ _ h => h) (Or.inl ⟨by rfl, ?_⟩) hHeld ?_
    rotate_left
    · (intro wx hSx; obtain ⟨⟨d0, d1, d2, d3⟩, ⟨e0, e1, e2, e3⟩, ⟨f0, f1, f2, f3⟩, ⟨g0, g1, g2, g3⟩, ⟨a0, a1, a2, a3⟩, ⟨b0, b1, b2, b3⟩⟩ : (_ ∧ _) ∧ (_ ∧ _) ∧ (_ ∧ _) ∧ (_ ∧ _) ∧ (_ ∧ _) ∧ (_ ∧ _) := ⟨hSx.1.1, hSx.2.1.1, hSx.2.2.1.1, hSx.2.2.2.1.1, hSx.2.2.2.2.1.1, hSx.2.2.2.2.2.1.1⟩; go_simp; (try with_reducible rfl))
    (try simp only [Act.put, List.getElem_toArray, List.getElem_cons_succ, List.getElem_cons_zero, List.setIfInBounds_toArray, List.set_cons_succ, List.set_cons_zero])
    refine wpAnyH_take (i := 33) (v := ?_) rfl (by kernel_rfl) (by kernel_rfl) (by kernel_rfl) (fun _ _ _ h => h) (Or.inl ⟨by rfl, ?_⟩) hHeld ?_
    rotate_left
    · (intro wx hSx; obtain ⟨⟨d0, d1, d2, d3⟩, ⟨e0, e1, e2, e3⟩, ⟨f0, f1, f2, f3⟩, ⟨g0, g1, g2, g3⟩, ⟨a0, a1, a2, a3⟩, ⟨b0, b1, b2, b3⟩⟩ : (_ ∧ _) ∧ (_ ∧ _) ∧ (_ ∧ _) ∧ (_ ∧ _) ∧ (_ ∧ _) ∧ (_ ∧ _) := ⟨hSx.1.1, hSx.2.1.1, hSx.2.2.1.1, hSx.2.2.2.1.1, hSx.2.2.2.2.1.1, hSx.2.2.2.2.2.1.1⟩; go_simp; (try with_reducible rfl))
    (try simp only [Act.put, List.getElem_toArray, List.getElem_cons_succ, List.getElem_cons_zero, List.setIfInBounds_toArray, List.set_cons_succ, List.set_cons_zero])
    refine wpAnyH_ready (rs := [31]) (by kernel_rfl) (by simp) ?_
    refine AllReadyH.cons rfl (fun K hK => ?_) AllReadyH.nil
    rw [if_pos (by rfl)]
    go_simp
    refine (CEI.out _ HH.out.2.2.2.2.1.2.1.chs HH.out.2.2.2.2.2.1.2.1.chs).mono ?_
    rintro e w1 ⟨rfl, hb1⟩
    have HH := Lib.hid (HH.out.next hb1)
    (try simp only [])
    refine hK.out _ _ HH.out (fun hHeld => ?_)
    clear hb1
    clear hK K
    (try simp only [Act.put, List.getElem_toArray, List.getElem_cons_succ, List.getElem_cons_zero, List.setIfInBounds_toArray, List.set_cons_succ, List.set_cons_zero])
    refine wpAnyH_ready (rs := [34]) (by kernel_rfl) (by simp) ?_
    refine AllReadyH.cons rfl (fun K hK => ?_) AllReadyH.nil
    rw [if_pos (by rfl)]
    go_simp
    refine (CES.out _ HH.out.2.2.2.2.1.2.1.chs HH.out.2.2.2.2.2.1.2.1.chs).mono ?_
    rintro e w1 ⟨rfl, hb1⟩
    have HH := Lib.hid (HH.out.next hb1)
    (try simp only [])
    refine hK.out _ _ HH.out (fun hHeld => ?_)
    clear hb1
    clear hK K
    (try simp only [Act.put, List.getElem_toArray, List.getElem_cons_succ, List.getElem_cons_zero, List.setIfInBounds_toArray, List.set_cons_succ, List.set_cons_zero])
    refine wpAnyH_take (i := 35) (v := ?_) rfl (by kernel_rfl) (by kernel_rfl) (by kernel_rfl) (fun _ _ _ h => h) (Or.inl ⟨by rfl, ?_⟩) hHeld ?_
    rotate_left
    · (intro wx hSx; obtain ⟨⟨d0, d1, d2, d3⟩, ⟨e0, e1, e2, e3⟩, ⟨f0, f1, f2, f3⟩, ⟨g0, g1, g2, g3⟩, ⟨a0, a1, a2, a3⟩, ⟨b0, b1, b2, b3⟩⟩ : (_ ∧ _) ∧ (_ ∧ _) ∧ (_ ∧ _) ∧ (_ ∧ _) ∧ (_ ∧ _) ∧ (_ ∧ _) := ⟨hSx.1.1, hSx.2.1.1, hSx.2.2.1.1, hSx.2.2.2.1.1, hSx.2.2.2.2.1.1, hSx.2.2.2.2.2.1.1⟩; go_simp; (try with_reducible rfl))
    (try simp only [Act.put, List.getElem_toArray, List.getElem_cons_succ, List.getElem_cons_zero, List.setIfInBounds_toArray, List.set_cons_succ, List.set_cons_zero])
    refine wpAnyH_take (i := 36) (v := ?_) rfl (by kernel_rfl) (by kernel_rfl) (by kernel_rfl) (fun _ _ _ h => h) (Or.inl ⟨by rfl, ?_⟩) hHeld ?_
    rotate_left
    · (intro wx hSx; obtain ⟨⟨d0, d1, d2, d3⟩, ⟨e0, e1, e2, e3⟩, ⟨f0, f1, f2, f3⟩, ⟨g0, g1, g2, g3⟩, ⟨a0, a1, a2, a3⟩, ⟨b0, b1, b2, b3⟩⟩ : (_ ∧ _) ∧ (_ ∧ _) ∧ (_ ∧ _) ∧ (_ ∧ _) ∧ (_ ∧ _) ∧ (_ ∧ _) := ⟨hSx.1.1, hSx.2.1.1, hSx.2.2.1.1, hSx.2.2.2.1.1, hSx.2.2.2.2.1.1, hSx.2.2.2.2.2.1.1⟩; go_simp; (try with_reducible rfl))
    (try simp only [Act.put, List.getElem_toArray, List.getElem_cons_succ, List.getElem_cons_zero, List.setIfInBounds_toArray, List.set_cons_succ, List.set_cons_zero])
    refine wpAnyH_take (i := 37) (v := ?_) rfl (by kernel_rfl) (by kernel_rfl) (by kernel_rfl) (fun _ _ _ h => h) (Or.inl ⟨by rfl, ?_⟩) hHeld ?_
    rotate_left
    · (intro wx hSx; obtain ⟨⟨d0, d1, d2, d3⟩, ⟨e0, e1, e2, e3⟩, ⟨f0, f1, f2, f3⟩, ⟨g0, g1, g2, g3⟩, ⟨a0, a1, a2, a3⟩, ⟨b0, b1, b2, b3⟩⟩ : (_ ∧ _) ∧ (_ ∧ _) ∧ (_ ∧ _) ∧ (_ ∧ _) ∧ (_ ∧ _) ∧ (_ ∧ _) := ⟨hSx.1.1, hSx.2.1.1, hSx.2.2.1.1, hSx.2.2.2.1.1, hSx.2.2.2.2.1.1, hSx.2.2.2.2.2.1.1⟩; go_simp; (try with_reducible rfl))
    (try simp only [Act.put, List.getElem_toArray, List.getElem_cons_succ, List.getElem_cons_zero, List.setIfInBounds_toArray, List.set_cons_succ, List.set_cons_zero])
    refine wpAnyH_done (by kernel_rfl) ?_ _
    clear hHeld
    go_wp2
    go_ret
    exact ⟨rfl, HH.out.2.2.2.2.2.2⟩
end Go.Proofs.Ytkhekbfakloaoaa
