/-
  What spec.ReceiveData returns.
-/
import Derived.Test.YtmmoedhfeaokgaaSRc2
import Derived.Test.YtmmoedhfeaokgaaSFin
import Derived.Test.YtmmoedhfeaokgaaRcX
import Derived.Test.YtmmoedhfeaokgaaSIns
namespace Go.Proofs.Ytmmoedhfeaokgaa
open Go.RowKit Go.Deep Go.Proofs.Ytmmoedhfeaokgaa.Num

theorem insB_in {b : Bf} {o : Int} {d : ByteArray} (h : okB b) (hs : sumC b.chs + d.size ≤ 8000000) : inB (insB b o d).chs := by
  intro c hc
  have h1 := okB_off (insB_ok b o d h) c hc
  have h2 := sumC_mem _ c hc
  have h3 := insB_sum b o d h
  exact ⟨by unfold maxLen; omega, by omega, by omega⟩
set_option maxRecDepth 100000 in
set_option maxHeartbeats 8000000 in
/-- spec.ReceiveData, where nothing changes. -/
theorem sdat_no (r : Rc) (o : Int) (d : ByteArray) (f : Bool) (A : Option Addr) (cap B : Nat) (w : World) (hB : B ≤ w.heap.size) (hr : Chs w B A r.buf.chs) (hn : r.buf.chs.length ≤ 10000000) (hi : inB r.buf.chs) (hx : inRc r) (ho : -9223372036854775808 ≤ o ∧ o ≤ 9223372036854775807) (hd : sumC r.buf.chs + d.size ≤ 8000000) (hno : ¬ (okRc r ∧ 0 ≤ o ∧ o ≤ 4611686018427387903 - d.size) ∨ badRc r (o + d.size) f ∨ 1 < r.st) :
    Calls Try.prog 34 #[rcV r (.slice A r.buf.chs.length cap), .int .i64 o, .string d, .bool f] w fun e w' => ∃ v, e = .returned (.tuple #[rcV (rcvRc r o d f).1 v, .int .i64 (rcvRc r o d f).2]) ∧ OwnX w' w.heap.size v (rcvRc r o d f).1.buf.chs ∧ Below w.heap.size w w' := by
  have s1 : ∀ o1, (w.alloc o1).heap.size = w.heap.size + 1 := fun _ => by simp
  have s2 : ∀ o1 o2, ((w.alloc o1).alloc o2).heap.size = w.heap.size + 2 := fun _ _ => by simp
  have HI1 := Lib.hid ((InRc.start w r A cap 28 (hr.up hB)).alloc (.cells (rcC 0 0 (.slice none 0 0) 0 0 0) 28))
  have X2 := BoxR.new (w.alloc (.cells (rcC r.st r.buf.next (.slice A r.buf.chs.length cap) r.fin r.hi r.code) 28)) 0 0 (.slice none 0 0) 0 0 0
  rw [s1] at X2
  have HS2 := Lib.hid (s2 (.cells (rcC r.st r.buf.next (.slice A r.buf.chs.length cap) r.fin r.hi r.code) 28) (.cells (rcC 0 0 (.slice none 0 0) 0 0 0) 28))
  have HO1 := Lib.hid X2
  have HCP : Hid (∀ W, InRc w w.heap.size r A cap W → Calls Try.prog 46 #[rcV r (.slice A r.buf.chs.length cap)] W fun e w' => ∃ v, e = .returned (rcV r v) ∧ OwnC w' W.heap.size v r.buf.chs ∧ Below W.heap.size W w') := Lib.hid fun W h => scopyrc r A cap w.heap.size W (Nat.le_of_lt h.2.2.1) h.2.1 (by omega)
  have HIR : Hid (∀ W, InRc w w.heap.size r A cap W → Calls Try.prog 19 #[rcV r (.slice A r.buf.chs.length cap)] W fun e w' => e = .returned (.bool (decide (okRc r))) ∧ Below W.heap.size W w') := Lib.hid fun W h => sisrc r A cap w.heap.size W (Nat.le_of_lt h.2.2.1) h.2.1 (by omega) hi hx
  clear X2 s1 s2
  have hsz : (0 : Int) ≤ d.size ∧ (d.size : Int) ≤ 8000000 := by have := sumC_nonneg r.buf.chs; omega
  have hw : IntKind.i64.wrap (4611686018427387903 - (d.size : Int)) = 4611686018427387903 - (d.size : Int) := by rw [IntKind.wrap_i64]; clear ho hx; omega
  by_cases hok : okRc r
  rotate_left
  · have hv : rcvRc r o d f = (r, 7) := if_pos (fun h => hok h.1)
    rw [hv]
    rw [decide_eq_false hok] at HIR
    clear hv hok hno hw hsz hr hi hx hn ho hd
    go_enter Try.func34, Try.ntmps34
    obtain ⟨a0, a1, a2, a3, a4, a5⟩ := HI1.out.1
    go_wp2_with fail
    refine (HCP.out _ HI1.out).mono ?_
    rintro e w3 ⟨v, rfl, ho, hb⟩
    have HH := Lib.hid (FrX.start HI1.out HO1.out HS2.out hb ho.x)
    obtain ⟨A3, c3, rfl, _, _⟩ := ho.frs
    clear ho hb a0 a1 a2 a3 a4 a5
    go_upto_region 2 with fail
    generalize w3.alloc (.cells (rcC r.st r.buf.next (.slice A3 r.buf.chs.length c3) r.fin r.hi r.code) 28) = w4 at *
    generalize w3.heap.size = gx at *
    obtain ⟨a0, a1, a2, a3, a4, a5⟩ := HH.out.i.1
    go_wp2_with fail
    refine (HIR.out _ HH.out.i).mono ?_
    rintro e w1 ⟨rfl, hb1⟩
    have HH := Lib.hid (HH.out.next hb1)
    clear hb1 a0 a1 a2 a3 a4 a5
    obtain ⟨a0, a1, a2, a3, a4, a5⟩ := HH.out.i.1
    obtain ⟨b0, b1, b2, b3, b4, b5⟩ := HH.out.b.cells
    obtain ⟨p0, p1, p2, p3, p4, p5⟩ := HH.out.o.cells
    have pf := HH.out.o.free
    have bf := HH.out.b.free
    go_wp2
    refine bodyPost_ret (results_cell_tmp rfl _ _ (w.heap.size + 1) _ _ _ _ rfl HH.out.out.1 Try.underlying28 rfl (by kernel_rfl)) rfl ?_
    exact ⟨_, rfl, HH.out.out.2.1, HH.out.out.2.2⟩
  rw [decide_eq_true hok] at HIR
  by_cases h0 : o < 0
  · have hv : rcvRc r o d f = (r, 7) := if_pos (fun h => by have := h.2.1; omega)
    rw [hv]
    have d0 : decide (o < 0) = true := decide_eq_true h0
    clear hv hok hno hw hsz h0 hr hi hx hn ho hd
    go_enter Try.func34, Try.ntmps34
    obtain ⟨a0, a1, a2, a3, a4, a5⟩ := HI1.out.1
    go_wp2_with fail
    refine (HCP.out _ HI1.out).mono ?_
    rintro e w3 ⟨v, rfl, ho, hb⟩
    have HH := Lib.hid (FrX.start HI1.out HO1.out HS2.out hb ho.x)
    obtain ⟨A3, c3, rfl, _, _⟩ := ho.frs
    clear ho hb a0 a1 a2 a3 a4 a5
    go_upto_region 2 with fail
    generalize w3.alloc (.cells (rcC r.st r.buf.next (.slice A3 r.buf.chs.length c3) r.fin r.hi r.code) 28) = w4 at *
    generalize w3.heap.size = gx at *
    obtain ⟨a0, a1, a2, a3, a4, a5⟩ := HH.out.i.1
    go_wp2_with fail
    refine (HIR.out _ HH.out.i).mono ?_
    rintro e w1 ⟨rfl, hb1⟩
    have HH := Lib.hid (HH.out.next hb1)
    clear hb1 a0 a1 a2 a3 a4 a5
    obtain ⟨a0, a1, a2, a3, a4, a5⟩ := HH.out.i.1
    obtain ⟨b0, b1, b2, b3, b4, b5⟩ := HH.out.b.cells
    obtain ⟨p0, p1, p2, p3, p4, p5⟩ := HH.out.o.cells
    have pf := HH.out.o.free
    have bf := HH.out.b.free
    go_wp2
    refine bodyPost_ret (results_cell_tmp rfl _ _ (w.heap.size + 1) _ _ _ _ rfl HH.out.out.1 Try.underlying28 rfl (by kernel_rfl)) rfl ?_
    exact ⟨_, rfl, HH.out.out.2.1, HH.out.out.2.2⟩
  have d0 : decide (o < 0) = false := decide_eq_false h0
  by_cases h1 : 4611686018427387903 - (d.size : Int) < o
  · have hv : rcvRc r o d f = (r, 7) := if_pos (fun h => by have := h.2.2; omega)
    rw [hv]
    have d1 : decide (4611686018427387903 - (d.size : Int) < o) = true := decide_eq_true h1
    clear hv hok hno hsz h0 h1 hr hi hx hn ho hd
    go_enter Try.func34, Try.ntmps34
    obtain ⟨a0, a1, a2, a3, a4, a5⟩ := HI1.out.1
    go_wp2_with fail
    refine (HCP.out _ HI1.out).mono ?_
    rintro e w3 ⟨v, rfl, ho, hb⟩
    have HH := Lib.hid (FrX.start HI1.out HO1.out HS2.out hb ho.x)
    obtain ⟨A3, c3, rfl, _, _⟩ := ho.frs
    clear ho hb a0 a1 a2 a3 a4 a5
    go_upto_region 2 with fail
    generalize w3.alloc (.cells (rcC r.st r.buf.next (.slice A3 r.buf.chs.length c3) r.fin r.hi r.code) 28) = w4 at *
    generalize w3.heap.size = gx at *
    obtain ⟨a0, a1, a2, a3, a4, a5⟩ := HH.out.i.1
    go_wp2_with fail
    refine (HIR.out _ HH.out.i).mono ?_
    rintro e w1 ⟨rfl, hb1⟩
    have HH := Lib.hid (HH.out.next hb1)
    clear hb1 a0 a1 a2 a3 a4 a5
    obtain ⟨a0, a1, a2, a3, a4, a5⟩ := HH.out.i.1
    obtain ⟨b0, b1, b2, b3, b4, b5⟩ := HH.out.b.cells
    obtain ⟨p0, p1, p2, p3, p4, p5⟩ := HH.out.o.cells
    have pf := HH.out.o.free
    have bf := HH.out.b.free
    go_wp2
    refine bodyPost_ret (results_cell_tmp rfl _ _ (w.heap.size + 1) _ _ _ _ rfl HH.out.out.1 Try.underlying28 rfl (by kernel_rfl)) rfl ?_
    exact ⟨_, rfl, HH.out.out.2.1, HH.out.out.2.2⟩
  have d1 : decide (4611686018427387903 - (d.size : Int) < o) = false := decide_eq_false h1
  have hwe : wrap64 (o + (d.size : Int)) = o + (d.size : Int) := by clear ho hx hw; unfold wrap64; omega
  have HFN : Hid (∀ W, InRc w w.heap.size r A cap W → Calls Try.prog 48 #[rcV r (.slice A r.buf.chs.length cap), .int .i64 (o + (d.size : Int)), .bool f] W fun e w' => e = .returned (.int .i64 (if badRc r (o + d.size) f then 6 else 0)) ∧ Below W.heap.size W w') := Lib.hid fun W h => sfin r (o + d.size) f A cap w.heap.size W (Nat.le_of_lt h.2.2.1) h.2.1
  by_cases hb : badRc r (o + d.size) f
  · have hv : rcvRc r o d f = (r, 6) := (if_neg (fun h => h ⟨hok, by omega, by omega⟩)).trans (if_pos hb)
    rw [hv]
    rw [if_pos hb] at HFN
    clear hv hok hno hsz h0 h1 hb hr hi hx hn ho hd
    go_enter Try.func34, Try.ntmps34
    obtain ⟨a0, a1, a2, a3, a4, a5⟩ := HI1.out.1
    go_wp2_with fail
    refine (HCP.out _ HI1.out).mono ?_
    rintro e w3 ⟨v, rfl, ho, hb⟩
    have HH := Lib.hid (FrX.start HI1.out HO1.out HS2.out hb ho.x)
    obtain ⟨A3, c3, rfl, _, _⟩ := ho.frs
    clear ho hb a0 a1 a2 a3 a4 a5
    go_upto_region 2 with fail
    generalize w3.alloc (.cells (rcC r.st r.buf.next (.slice A3 r.buf.chs.length c3) r.fin r.hi r.code) 28) = w4 at *
    generalize w3.heap.size = gx at *
    obtain ⟨a0, a1, a2, a3, a4, a5⟩ := HH.out.i.1
    go_wp2_with fail
    refine (HIR.out _ HH.out.i).mono ?_
    rintro e w1 ⟨rfl, hb1⟩
    have HH := Lib.hid (HH.out.next hb1)
    clear hb1 a0 a1 a2 a3 a4 a5
    obtain ⟨a0, a1, a2, a3, a4, a5⟩ := HH.out.i.1
    go_wp2_with fail
    refine (HFN.out _ HH.out.i).mono ?_
    rintro e w6 ⟨rfl, hb6⟩
    have HH := Lib.hid (HH.out.next hb6)
    clear hb6 a0 a1 a2 a3 a4 a5
    obtain ⟨a0, a1, a2, a3, a4, a5⟩ := HH.out.i.1
    obtain ⟨b0, b1, b2, b3, b4, b5⟩ := HH.out.b.cells
    obtain ⟨p0, p1, p2, p3, p4, p5⟩ := HH.out.o.cells
    have pf := HH.out.o.free
    have bf := HH.out.b.free
    go_wp2
    refine bodyPost_ret (results_cell_tmp rfl _ _ (w.heap.size + 1) _ _ _ _ rfl HH.out.out.1 Try.underlying28 rfl (by kernel_rfl)) rfl ?_
    exact ⟨_, rfl, HH.out.out.2.1, HH.out.out.2.2⟩
  rw [if_neg hb] at HFN
  have hs : 1 < r.st := (hno.resolve_left (fun h => h ⟨hok, by omega, by omega⟩)).resolve_left hb
  have hv : rcvRc r o d f = (r, 0) := (if_neg (fun h => h ⟨hok, by omega, by omega⟩)).trans ((if_neg hb).trans (if_pos hs))
  rw [hv]
  have ds : decide (1 < r.st) = true := decide_eq_true hs
  clear hv hok hno hsz h0 h1 hb hs hr hi hx hn ho hd
  go_enter Try.func34, Try.ntmps34
  obtain ⟨a0, a1, a2, a3, a4, a5⟩ := HI1.out.1
  go_wp2_with fail
  refine (HCP.out _ HI1.out).mono ?_
  rintro e w3 ⟨v, rfl, ho, hb⟩
  have HH := Lib.hid (FrX.start HI1.out HO1.out HS2.out hb ho.x)
  obtain ⟨A3, c3, rfl, _, _⟩ := ho.frs
  clear ho hb a0 a1 a2 a3 a4 a5
  go_upto_region 2 with fail
  generalize w3.alloc (.cells (rcC r.st r.buf.next (.slice A3 r.buf.chs.length c3) r.fin r.hi r.code) 28) = w4 at *
  generalize w3.heap.size = gx at *
  obtain ⟨a0, a1, a2, a3, a4, a5⟩ := HH.out.i.1
  go_wp2_with fail
  refine (HIR.out _ HH.out.i).mono ?_
  rintro e w1 ⟨rfl, hb1⟩
  have HH := Lib.hid (HH.out.next hb1)
  clear hb1 a0 a1 a2 a3 a4 a5
  obtain ⟨a0, a1, a2, a3, a4, a5⟩ := HH.out.i.1
  go_wp2_with fail
  refine (HFN.out _ HH.out.i).mono ?_
  rintro e w6 ⟨rfl, hb6⟩
  have HH := Lib.hid (HH.out.next hb6)
  clear hb6 a0 a1 a2 a3 a4 a5
  obtain ⟨a0, a1, a2, a3, a4, a5⟩ := HH.out.i.1
  obtain ⟨b0, b1, b2, b3, b4, b5⟩ := HH.out.b.cells
  obtain ⟨p0, p1, p2, p3, p4, p5⟩ := HH.out.o.cells
  have pf := HH.out.o.free
  have bf := HH.out.b.free
  go_wp2
  refine bodyPost_ret (results_cell_tmp rfl _ _ (w.heap.size + 1) _ _ _ _ rfl HH.out.out.1 Try.underlying28 rfl (by kernel_rfl)) rfl ?_
  exact ⟨_, rfl, HH.out.out.2.1, HH.out.out.2.2⟩
set_option maxRecDepth 100000 in
set_option maxHeartbeats 8000000 in
/-- spec.ReceiveData, where data is taken. -/
theorem sdat_fu (r : Rc) (o : Int) (d : ByteArray) (A : Option Addr) (cap B : Nat) (w : World) (hB : B ≤ w.heap.size) (hr : Chs w B A r.buf.chs) (hn : r.buf.chs.length ≤ 10000000) (hi : inB r.buf.chs) (hx : inRc r) (ho : -9223372036854775808 ≤ o ∧ o ≤ 9223372036854775807) (hd : sumC r.buf.chs + d.size ≤ 8000000) (hok : okRc r) (h0 : ¬ o < 0) (h1 : ¬ 4611686018427387903 - (d.size : Int) < o) (hb : ¬ badRc r (o + d.size) true) (hs : ¬ 1 < r.st) (hE : r.hi < o + (d.size : Int)) :
    Calls Try.prog 34 #[rcV r (.slice A r.buf.chs.length cap), .int .i64 o, .string d, .bool true] w fun e w' => ∃ v, e = .returned (.tuple #[rcV (rcvRc r o d true).1 v, .int .i64 (rcvRc r o d true).2]) ∧ OwnX w' w.heap.size v (rcvRc r o d true).1.buf.chs ∧ Below w.heap.size w w' := by
  have s1 : ∀ o1, (w.alloc o1).heap.size = w.heap.size + 1 := fun _ => by simp
  have s2 : ∀ o1 o2, ((w.alloc o1).alloc o2).heap.size = w.heap.size + 2 := fun _ _ => by simp
  have HI1 := Lib.hid ((InRc.start w r A cap 28 (hr.up hB)).alloc (.cells (rcC 0 0 (.slice none 0 0) 0 0 0) 28))
  have X2 := BoxR.new (w.alloc (.cells (rcC r.st r.buf.next (.slice A r.buf.chs.length cap) r.fin r.hi r.code) 28)) 0 0 (.slice none 0 0) 0 0 0
  rw [s1] at X2
  have HS2 := Lib.hid (s2 (.cells (rcC r.st r.buf.next (.slice A r.buf.chs.length cap) r.fin r.hi r.code) 28) (.cells (rcC 0 0 (.slice none 0 0) 0 0 0) 28))
  have HO1 := Lib.hid X2
  have HCP : Hid (∀ W, InRc w w.heap.size r A cap W → Calls Try.prog 46 #[rcV r (.slice A r.buf.chs.length cap)] W fun e w' => ∃ v, e = .returned (rcV r v) ∧ OwnC w' W.heap.size v r.buf.chs ∧ Below W.heap.size W w') := Lib.hid fun W h => scopyrc r A cap w.heap.size W (Nat.le_of_lt h.2.2.1) h.2.1 (by omega)
  have HIR : Hid (∀ W, InRc w w.heap.size r A cap W → Calls Try.prog 19 #[rcV r (.slice A r.buf.chs.length cap)] W fun e w' => e = .returned (.bool (decide (okRc r))) ∧ Below W.heap.size W w') := Lib.hid fun W h => sisrc r A cap w.heap.size W (Nat.le_of_lt h.2.2.1) h.2.1 (by omega) hi hx
  clear X2 s1 s2
  have hsz : (0 : Int) ≤ d.size ∧ (d.size : Int) ≤ 8000000 := by have := sumC_nonneg r.buf.chs; omega
  have hw : IntKind.i64.wrap (4611686018427387903 - (d.size : Int)) = 4611686018427387903 - (d.size : Int) := by rw [IntKind.wrap_i64]; clear ho hx; omega
  rw [decide_eq_true hok] at HIR
  have d0 : decide (o < 0) = false := decide_eq_false h0
  have d1 : decide (4611686018427387903 - (d.size : Int) < o) = false := decide_eq_false h1
  have hwe : wrap64 (o + (d.size : Int)) = o + (d.size : Int) := by clear ho hx hw; unfold wrap64; omega
  have HFN : Hid (∀ W, InRc w w.heap.size r A cap W → Calls Try.prog 48 #[rcV r (.slice A r.buf.chs.length cap), .int .i64 (o + (d.size : Int)), .bool true] W fun e w' => e = .returned (.int .i64 (if badRc r (o + d.size) true then 6 else 0)) ∧ Below W.heap.size W w') := Lib.hid fun W h => sfin r (o + d.size) true A cap w.heap.size W (Nat.le_of_lt h.2.2.1) h.2.1
  rw [if_neg hb] at HFN
  have ds : decide (1 < r.st) = false := decide_eq_false hs
  have hv : rcvRc r o d true = (fillRc ⟨1, insB r.buf o d, (o + (d.size : Int)), (o + (d.size : Int)), r.code⟩, 0) := (if_neg (fun h => h ⟨hok, by omega, by omega⟩)).trans ((if_neg hb).trans ((if_neg hs).trans (by unfold datRc; rw [show max r.hi (o + (d.size : Int)) = (o + (d.size : Int)) by omega]; rfl)))
  rw [hv]
  have HNX := Lib.hid (insB_next r.buf o d)
  have HBO := Lib.hid (insB_ok r.buf o d hok.1.1)
  have HBI := Lib.hid (insB_in (o := o) hok.1.1 hd)
  have HBL := Lib.hid (insB_len2 r.buf o d)
  have HBS := Lib.hid (insB_sum r.buf o d hok.1.1)
  have HIN : Hid (∀ W, InRc w w.heap.size r A cap W → Calls Try.prog 63 #[bfV r.buf.next (.slice A r.buf.chs.length cap), .int .i64 o, .string d] W fun e w' => ∃ v, e = .returned (bfV (insB r.buf o d).next v) ∧ OwnC w' W.heap.size v (insB r.buf o d).chs ∧ Below W.heap.size W w') := Lib.hid fun W h => by
    rw [HNX.out]
    exact sins r.buf o d A cap w.heap.size W (Nat.le_of_lt h.2.2.1) h.2.1 hn hi hx.2.1 ho hd
  generalize insB r.buf o d = b at *
  have hbn := HBO.out.2
  have hwb : IntKind.i64.wrap (b.next + (rdyB b : Int)) = b.next + (rdyB b : Int) := by
    have h9 : b.next + (rdyB b : Int) ≤ 9223372036854775807 := by
      by_cases hz : rdyB b = 0
      · rw [hz]; omega
      · obtain ⟨_, c, l, hl, hcn, hcs⟩ := rdyB_pos hz
        have h8 := sumC_mem b.chs c (by rw [hl]; exact List.mem_cons_self ..)
        have h7 := HBS.out
        omega
    rw [IntKind.wrap_i64]
    clear ho hx hw hwe
    omega
  have HRD : Hid (∀ (Y : Option Addr) (cy : Nat) W, Chs W W.heap.size Y b.chs → Calls Try.prog 52 #[bfV b.next (.slice Y b.chs.length cy)] W fun e w' => e = .returned (.int .i64 (rdyB b : Nat)) ∧ Below W.heap.size W w') := Lib.hid fun Y cy W h => sready b Y cy W.heap.size W (Nat.le_refl _) h (by have := HBL.out; omega) HBI.out (by omega)
  have h9 : ¬ o + (d.size : Int) = -1 := by omega
  have g0 : (o + (d.size : Int) == -1) = false := by simpa using h9
  have g1 : (o + (d.size : Int) != -1) = true := by simpa using h9
  clear h9
  have HFZ : Hid (o + (d.size : Int) ≠ -1) := Lib.hid (by omega)
  obtain ⟨X, hX⟩ : ∃ X, fillRc ⟨1, b, (o + (d.size : Int)), (o + (d.size : Int)), r.code⟩ = X := ⟨_, rfl⟩
  rw [hX]
  have HX := Lib.hid hX
  have d9 : decide (r.hi < o + (d.size : Int)) = true := decide_eq_true hE
  have m9 : max r.hi (o + (d.size : Int)) = (o + (d.size : Int)) := by omega
  have hE2 := hE
  clear hX hv hok h0 h1 hb hs hE hbn hsz hr hi hx hn ho hd
  go_enter Try.func34, Try.ntmps34
  obtain ⟨a0, a1, a2, a3, a4, a5⟩ := HI1.out.1
  go_wp2_with fail
  refine (HCP.out _ HI1.out).mono ?_
  rintro e w3 ⟨v, rfl, ho, hb⟩
  have HH := Lib.hid (FrX.start HI1.out HO1.out HS2.out hb ho.x)
  obtain ⟨A3, c3, rfl, _, _⟩ := ho.frs
  clear ho hb a0 a1 a2 a3 a4 a5
  go_upto_region 2 with fail
  generalize w3.alloc (.cells (rcC r.st r.buf.next (.slice A3 r.buf.chs.length c3) r.fin r.hi r.code) 28) = w4 at *
  generalize w3.heap.size = gx at *
  obtain ⟨a0, a1, a2, a3, a4, a5⟩ := HH.out.i.1
  go_wp2_with fail
  refine (HIR.out _ HH.out.i).mono ?_
  rintro e w1 ⟨rfl, hb1⟩
  have HH := Lib.hid (HH.out.next hb1)
  clear hb1 a0 a1 a2 a3 a4 a5
  obtain ⟨a0, a1, a2, a3, a4, a5⟩ := HH.out.i.1
  go_wp2_with fail
  refine (HFN.out _ HH.out.i).mono ?_
  rintro e w6 ⟨rfl, hb6⟩
  have HH := Lib.hid (HH.out.next hb6)
  clear hb6 a0 a1 a2 a3 a4 a5
  obtain ⟨a0, a1, a2, a3, a4, a5⟩ := HH.out.i.1
  obtain ⟨b0, b1, b2, b3, b4, b5⟩ := HH.out.b.cells
  obtain ⟨p0, p1, p2, p3, p4, p5⟩ := HH.out.o.cells
  have pf := HH.out.o.free
  have bf := HH.out.b.free
  go_upto_region 12 with fail
  have HH := Lib.hid (((HH.out.put4 (o + (d.size : Int))).put3 (o + (d.size : Int))).put0 1)
  clear a0 a1 a2 a3 a4 a5 b0 b1 b2 b3 b4 b5 p0 p1 p2 p3 p4 p5 pf bf
  generalize ((w6.setCell ⟨gx, 4, none⟩ (.int .i64 (o + (d.size : Int)))).setCell ⟨gx, 3, none⟩ (.int .i64 (o + (d.size : Int)))).setCell ⟨gx, 0, none⟩ (.int .i64 1) = w7 at *
  obtain ⟨a0, a1, a2, a3, a4, a5⟩ := HH.out.i.1
  go_wp2_with fail
  refine (HIN.out _ HH.out.i).mono ?_
  rintro e w8 ⟨v8, rfl, ho8, hb8⟩
  obtain ⟨A8, c8, rfl, _, _⟩ := ho8.frs
  have HX8 := Lib.hid (HH.out.next hb8)
  have HH := Lib.hid (HH.out.putB hb8 b (.slice A8 b.chs.length c8) ho8.x)
  clear ho8 hb8 a0 a1 a2 a3 a4 a5
  obtain ⟨b0, b1, b2, b3, b4, b5⟩ := HX8.out.b.cells
  have bf := HX8.out.b.free
  go_upto_region 13 with fail
  clear b0 b1 b2 b3 b4 b5 bf HX8
  generalize (w8.setCell ⟨gx, 1, none⟩ (.int .i64 b.next)).setCell ⟨gx, 2, none⟩ (.slice A8 b.chs.length c8) = w9 at *
  have HH := Lib.hid HH.out.drew
  by_cases hq : b.next + (rdyB b : Int) = (o + (d.size : Int))
  · have hXX := HX.out.symm.trans (if_pos ⟨HFZ.out, hq⟩)
    have tq : (b.next + (rdyB b : Int) == (o + (d.size : Int))) = true := by simpa using hq
    clear hq
    subst hXX
    clear HX
    refine wp_region_held_drew (S := (FrX w r A cap gx ⟨1, b, (o + (d.size : Int)), (o + (d.size : Int)), r.code⟩ (.slice A8 b.chs.length c8))) (by kernel_rfl) HH.out (fun hHeld => ?_)
    refine wpAnyH_take (i := 0) (v := ?_) rfl (by kernel_rfl) (by kernel_rfl) (by kernel_rfl) (fun _ _ _ h => h) (Or.inl ⟨by rfl, ?_⟩) hHeld ?_
    rotate_left
    · (intro wx hSx; obtain ⟨⟨a0, a1, a2, a3, a4, a5⟩, _⟩ : (_ ∧ _) ∧ True := ⟨hSx.b.cells, trivial⟩; go_simp; (try with_reducible rfl))
    (try simp only [Act.put, List.getElem_toArray, List.getElem_cons_zero, List.setIfInBounds_toArray, List.set_cons_succ, List.set_cons_zero])
    refine wpAnyH_take (i := 1) (v := ?_) rfl (by kernel_rfl) (by kernel_rfl) (by kernel_rfl) (fun _ _ _ h => h) (Or.inl ⟨by rfl, ?_⟩) hHeld ?_
    rotate_left
    · (intro wx hSx; obtain ⟨⟨a0, a1, a2, a3, a4, a5⟩, _⟩ : (_ ∧ _) ∧ True := ⟨hSx.b.cells, trivial⟩; go_simp; (try with_reducible rfl))
    (try simp only [Act.put, List.getElem_toArray, List.getElem_cons_succ, List.getElem_cons_zero, List.setIfInBounds_toArray, List.set_cons_succ, List.set_cons_zero])
    refine wpAnyH_take (i := 2) (v := ?_) rfl (by kernel_rfl) (by kernel_rfl) (by kernel_rfl) (fun _ _ _ h => h) (Or.inl ⟨by rfl, ?_⟩) hHeld ?_
    rotate_left
    · (intro wx hSx; obtain ⟨⟨a0, a1, a2, a3, a4, a5⟩, _⟩ : (_ ∧ _) ∧ True := ⟨hSx.b.cells, trivial⟩; go_simp; (try with_reducible rfl))
    (try simp only [Act.put, List.getElem_toArray, List.getElem_cons_succ, List.getElem_cons_zero, List.setIfInBounds_toArray, List.set_cons_succ, List.set_cons_zero])
    refine wpAnyH_take (i := 3) (v := ?_) rfl (by kernel_rfl) (by kernel_rfl) (by kernel_rfl) (fun _ _ _ h => h) (Or.inl ⟨by rfl, ?_⟩) hHeld ?_
    rotate_left
    · (intro wx hSx; obtain ⟨⟨a0, a1, a2, a3, a4, a5⟩, _⟩ : (_ ∧ _) ∧ True := ⟨hSx.b.cells, trivial⟩; go_simp; (try with_reducible rfl))
    (try simp only [Act.put, List.getElem_toArray, List.getElem_cons_succ, List.getElem_cons_zero, List.setIfInBounds_toArray, List.set_cons_succ, List.set_cons_zero])
    refine wpAnyH_take (i := 4) (v := ?_) rfl (by kernel_rfl) (by kernel_rfl) (by kernel_rfl) (fun _ _ _ h => h) (Or.inl ⟨by rfl, ?_⟩) hHeld ?_
    rotate_left
    · (intro wx hSx; obtain ⟨⟨a0, a1, a2, a3, a4, a5⟩, _⟩ : (_ ∧ _) ∧ True := ⟨hSx.b.cells, trivial⟩; go_simp; (try with_reducible rfl))
    (try simp only [Act.put, List.getElem_toArray, List.getElem_cons_succ, List.getElem_cons_zero, List.setIfInBounds_toArray, List.set_cons_succ, List.set_cons_zero])
    refine wpAnyH_take (i := 5) (v := ?_) rfl (by kernel_rfl) (by kernel_rfl) (by kernel_rfl) (fun _ _ _ h => h) (Or.inl ⟨by rfl, ?_⟩) hHeld ?_
    rotate_left
    · (intro wx hSx; obtain ⟨⟨a0, a1, a2, a3, a4, a5⟩, _⟩ : (_ ∧ _) ∧ True := ⟨hSx.b.cells, trivial⟩; go_simp; (try with_reducible rfl))
    (try simp only [Act.put, List.getElem_toArray, List.getElem_cons_succ, List.getElem_cons_zero, List.setIfInBounds_toArray, List.set_cons_succ, List.set_cons_zero])
    refine wpAnyH_take (i := 6) (v := ?_) rfl (by kernel_rfl) (by kernel_rfl) (by kernel_rfl) (fun _ _ _ h => h) (Or.inl ⟨by rfl, ?_⟩) hHeld ?_
    rotate_left
    · (intro wx hSx; obtain ⟨⟨a0, a1, a2, a3, a4, a5⟩, _⟩ : (_ ∧ _) ∧ True := ⟨hSx.b.cells, trivial⟩; go_simp; (try with_reducible rfl))
    (try simp only [Act.put, List.getElem_toArray, List.getElem_cons_succ, List.getElem_cons_zero, List.setIfInBounds_toArray, List.set_cons_succ, List.set_cons_zero])
    refine wpAnyH_take (i := 7) (v := ?_) rfl (by kernel_rfl) (by kernel_rfl) (by kernel_rfl) (fun _ _ _ h => h) (Or.inl ⟨by rfl, ?_⟩) hHeld ?_
    rotate_left
    · (intro wx hSx; obtain ⟨⟨a0, a1, a2, a3, a4, a5⟩, _⟩ : (_ ∧ _) ∧ True := ⟨hSx.b.cells, trivial⟩; go_simp; (try with_reducible rfl))
    (try simp only [Act.put, List.getElem_toArray, List.getElem_cons_succ, List.getElem_cons_zero, List.setIfInBounds_toArray, List.set_cons_succ, List.set_cons_zero])
    refine wpAnyH_take (i := 8) (v := ?_) rfl (by kernel_rfl) (by kernel_rfl) (by kernel_rfl) (fun _ _ _ h => h) (Or.inl ⟨by rfl, ?_⟩) hHeld ?_
    rotate_left
    · (intro wx hSx; obtain ⟨⟨a0, a1, a2, a3, a4, a5⟩, _⟩ : (_ ∧ _) ∧ True := ⟨hSx.b.cells, trivial⟩; go_simp; (try with_reducible rfl))
    (try simp only [Act.put, List.getElem_toArray, List.getElem_cons_succ, List.getElem_cons_zero, List.setIfInBounds_toArray, List.set_cons_succ, List.set_cons_zero])
    refine wpAnyH_take (i := 11) (v := ?_) rfl (by kernel_rfl) (by kernel_rfl) (by kernel_rfl) (fun _ _ _ h => h) (Or.inl ⟨by rfl, ?_⟩) hHeld ?_
    rotate_left
    · (intro wx hSx; obtain ⟨⟨a0, a1, a2, a3, a4, a5⟩, _⟩ : (_ ∧ _) ∧ True := ⟨hSx.b.cells, trivial⟩; go_simp; (try with_reducible rfl))
    (try simp only [Act.put, List.getElem_toArray, List.getElem_cons_succ, List.getElem_cons_zero, List.setIfInBounds_toArray, List.set_cons_succ, List.set_cons_zero])
    refine wpAnyH_take (i := 12) (v := ?_) rfl (by kernel_rfl) (by kernel_rfl) (by kernel_rfl) (fun _ _ _ h => h) (Or.inl ⟨by rfl, ?_⟩) hHeld ?_
    rotate_left
    · (intro wx hSx; obtain ⟨⟨a0, a1, a2, a3, a4, a5⟩, _⟩ : (_ ∧ _) ∧ True := ⟨hSx.b.cells, trivial⟩; go_simp; (try with_reducible rfl))
    (try simp only [Act.put, List.getElem_toArray, List.getElem_cons_succ, List.getElem_cons_zero, List.setIfInBounds_toArray, List.set_cons_succ, List.set_cons_zero])
    refine wpAnyH_ready (rs := [9]) (by kernel_rfl) (by simp) ?_
    refine AllReadyH.cons rfl (fun K hK => ?_) AllReadyH.nil
    rw [if_pos (by rfl)]
    go_simp
    refine (HRD.out A8 c8 _ (HH.out.own.chs)).mono ?_
    rintro e w1 ⟨rfl, hb1⟩
    have HH := Lib.hid (HH.out.next hb1)
    (try simp only [])
    refine hK.out _ _ HH.out (fun hHeld => ?_)
    clear hb1
    clear hK K
    (try simp only [Act.put, List.getElem_toArray, List.getElem_cons_succ, List.getElem_cons_zero, List.setIfInBounds_toArray, List.set_cons_succ, List.set_cons_zero])
    refine wpAnyH_take (i := 10) (v := ?_) rfl (by kernel_rfl) (by kernel_rfl) (by kernel_rfl) (fun _ _ _ h => h) (Or.inl ⟨by rfl, ?_⟩) hHeld ?_
    rotate_left
    · (intro wx hSx; obtain ⟨⟨a0, a1, a2, a3, a4, a5⟩, _⟩ : (_ ∧ _) ∧ True := ⟨hSx.b.cells, trivial⟩; go_simp; (try with_reducible rfl))
    (try simp only [Act.put, List.getElem_toArray, List.getElem_cons_succ, List.getElem_cons_zero, List.setIfInBounds_toArray, List.set_cons_succ, List.set_cons_zero])
    refine wpAnyH_take (i := 13) (v := ?_) rfl (by kernel_rfl) (by kernel_rfl) (by kernel_rfl) (fun _ _ _ h => h) (Or.inl ⟨by rfl, ?_⟩) hHeld ?_
    rotate_left
    · (intro wx hSx; obtain ⟨⟨a0, a1, a2, a3, a4, a5⟩, _⟩ : (_ ∧ _) ∧ True := ⟨hSx.b.cells, trivial⟩; go_simp; (try with_reducible rfl))
    (try simp only [Act.put, List.getElem_toArray, List.getElem_cons_succ, List.getElem_cons_zero, List.setIfInBounds_toArray, List.set_cons_succ, List.set_cons_zero])
    refine wpAnyH_take (i := 14) (v := ?_) rfl (by kernel_rfl) (by kernel_rfl) (by kernel_rfl) (fun _ _ _ h => h) (Or.inl ⟨by rfl, ?_⟩) hHeld ?_
    rotate_left
    · (intro wx hSx; obtain ⟨⟨a0, a1, a2, a3, a4, a5⟩, _⟩ : (_ ∧ _) ∧ True := ⟨hSx.b.cells, trivial⟩; go_simp; (try with_reducible rfl))
    (try simp only [Act.put, List.getElem_toArray, List.getElem_cons_succ, List.getElem_cons_zero, List.setIfInBounds_toArray, List.set_cons_succ, List.set_cons_zero])
    refine wpAnyH_done (by kernel_rfl) ?_ _
    clear hHeld
    obtain ⟨b0, b1, b2, b3, b4, b5⟩ := HH.out.b.cells
    have bf := HH.out.b.free
    go_upto_region 15 with fail
    have HH := Lib.hid (HH.out.put0 2)
    clear b0 b1 b2 b3 b4 b5 bf
    obtain ⟨a0, a1, a2, a3, a4, a5⟩ := HH.out.i.1
    obtain ⟨b0, b1, b2, b3, b4, b5⟩ := HH.out.b.cells
    obtain ⟨p0, p1, p2, p3, p4, p5⟩ := HH.out.o.cells
    have pf := HH.out.o.free
    have bf := HH.out.b.free
    go_wp2
    refine bodyPost_ret (results_cell_tmp rfl _ _ (w.heap.size + 1) _ _ _ _ rfl HH.out.out.1 Try.underlying28 rfl (by kernel_rfl)) rfl ?_
    exact ⟨_, rfl, HH.out.out.2.1, HH.out.out.2.2⟩
  · have hXX := HX.out.symm.trans (if_neg (fun h => hq h.2))
    have tq : (b.next + (rdyB b : Int) == (o + (d.size : Int))) = false := by simpa using hq
    clear hq
    subst hXX
    clear HX
    refine wp_region_held_drew (S := (FrX w r A cap gx ⟨1, b, (o + (d.size : Int)), (o + (d.size : Int)), r.code⟩ (.slice A8 b.chs.length c8))) (by kernel_rfl) HH.out (fun hHeld => ?_)
    refine wpAnyH_take (i := 0) (v := ?_) rfl (by kernel_rfl) (by kernel_rfl) (by kernel_rfl) (fun _ _ _ h => h) (Or.inl ⟨by rfl, ?_⟩) hHeld ?_
    rotate_left
    · (intro wx hSx; obtain ⟨⟨a0, a1, a2, a3, a4, a5⟩, _⟩ : (_ ∧ _) ∧ True := ⟨hSx.b.cells, trivial⟩; go_simp; (try with_reducible rfl))
    (try simp only [Act.put, List.getElem_toArray, List.getElem_cons_zero, List.setIfInBounds_toArray, List.set_cons_succ, List.set_cons_zero])
    refine wpAnyH_take (i := 1) (v := ?_) rfl (by kernel_rfl) (by kernel_rfl) (by kernel_rfl) (fun _ _ _ h => h) (Or.inl ⟨by rfl, ?_⟩) hHeld ?_
    rotate_left
    · (intro wx hSx; obtain ⟨⟨a0, a1, a2, a3, a4, a5⟩, _⟩ : (_ ∧ _) ∧ True := ⟨hSx.b.cells, trivial⟩; go_simp; (try with_reducible rfl))
    (try simp only [Act.put, List.getElem_toArray, List.getElem_cons_succ, List.getElem_cons_zero, List.setIfInBounds_toArray, List.set_cons_succ, List.set_cons_zero])
    refine wpAnyH_take (i := 2) (v := ?_) rfl (by kernel_rfl) (by kernel_rfl) (by kernel_rfl) (fun _ _ _ h => h) (Or.inl ⟨by rfl, ?_⟩) hHeld ?_
    rotate_left
    · (intro wx hSx; obtain ⟨⟨a0, a1, a2, a3, a4, a5⟩, _⟩ : (_ ∧ _) ∧ True := ⟨hSx.b.cells, trivial⟩; go_simp; (try with_reducible rfl))
    (try simp only [Act.put, List.getElem_toArray, List.getElem_cons_succ, List.getElem_cons_zero, List.setIfInBounds_toArray, List.set_cons_succ, List.set_cons_zero])
    refine wpAnyH_take (i := 3) (v := ?_) rfl (by kernel_rfl) (by kernel_rfl) (by kernel_rfl) (fun _ _ _ h => h) (Or.inl ⟨by rfl, ?_⟩) hHeld ?_
    rotate_left
    · (intro wx hSx; obtain ⟨⟨a0, a1, a2, a3, a4, a5⟩, _⟩ : (_ ∧ _) ∧ True := ⟨hSx.b.cells, trivial⟩; go_simp; (try with_reducible rfl))
    (try simp only [Act.put, List.getElem_toArray, List.getElem_cons_succ, List.getElem_cons_zero, List.setIfInBounds_toArray, List.set_cons_succ, List.set_cons_zero])
    refine wpAnyH_take (i := 4) (v := ?_) rfl (by kernel_rfl) (by kernel_rfl) (by kernel_rfl) (fun _ _ _ h => h) (Or.inl ⟨by rfl, ?_⟩) hHeld ?_
    rotate_left
    · (intro wx hSx; obtain ⟨⟨a0, a1, a2, a3, a4, a5⟩, _⟩ : (_ ∧ _) ∧ True := ⟨hSx.b.cells, trivial⟩; go_simp; (try with_reducible rfl))
    (try simp only [Act.put, List.getElem_toArray, List.getElem_cons_succ, List.getElem_cons_zero, List.setIfInBounds_toArray, List.set_cons_succ, List.set_cons_zero])
    refine wpAnyH_take (i := 5) (v := ?_) rfl (by kernel_rfl) (by kernel_rfl) (by kernel_rfl) (fun _ _ _ h => h) (Or.inl ⟨by rfl, ?_⟩) hHeld ?_
    rotate_left
    · (intro wx hSx; obtain ⟨⟨a0, a1, a2, a3, a4, a5⟩, _⟩ : (_ ∧ _) ∧ True := ⟨hSx.b.cells, trivial⟩; go_simp; (try with_reducible rfl))
    (try simp only [Act.put, List.getElem_toArray, List.getElem_cons_succ, List.getElem_cons_zero, List.setIfInBounds_toArray, List.set_cons_succ, List.set_cons_zero])
    refine wpAnyH_take (i := 6) (v := ?_) rfl (by kernel_rfl) (by kernel_rfl) (by kernel_rfl) (fun _ _ _ h => h) (Or.inl ⟨by rfl, ?_⟩) hHeld ?_
    rotate_left
    · (intro wx hSx; obtain ⟨⟨a0, a1, a2, a3, a4, a5⟩, _⟩ : (_ ∧ _) ∧ True := ⟨hSx.b.cells, trivial⟩; go_simp; (try with_reducible rfl))
    (try simp only [Act.put, List.getElem_toArray, List.getElem_cons_succ, List.getElem_cons_zero, List.setIfInBounds_toArray, List.set_cons_succ, List.set_cons_zero])
    refine wpAnyH_take (i := 7) (v := ?_) rfl (by kernel_rfl) (by kernel_rfl) (by kernel_rfl) (fun _ _ _ h => h) (Or.inl ⟨by rfl, ?_⟩) hHeld ?_
    rotate_left
    · (intro wx hSx; obtain ⟨⟨a0, a1, a2, a3, a4, a5⟩, _⟩ : (_ ∧ _) ∧ True := ⟨hSx.b.cells, trivial⟩; go_simp; (try with_reducible rfl))
    (try simp only [Act.put, List.getElem_toArray, List.getElem_cons_succ, List.getElem_cons_zero, List.setIfInBounds_toArray, List.set_cons_succ, List.set_cons_zero])
    refine wpAnyH_take (i := 8) (v := ?_) rfl (by kernel_rfl) (by kernel_rfl) (by kernel_rfl) (fun _ _ _ h => h) (Or.inl ⟨by rfl, ?_⟩) hHeld ?_
    rotate_left
    · (intro wx hSx; obtain ⟨⟨a0, a1, a2, a3, a4, a5⟩, _⟩ : (_ ∧ _) ∧ True := ⟨hSx.b.cells, trivial⟩; go_simp; (try with_reducible rfl))
    (try simp only [Act.put, List.getElem_toArray, List.getElem_cons_succ, List.getElem_cons_zero, List.setIfInBounds_toArray, List.set_cons_succ, List.set_cons_zero])
    refine wpAnyH_take (i := 11) (v := ?_) rfl (by kernel_rfl) (by kernel_rfl) (by kernel_rfl) (fun _ _ _ h => h) (Or.inl ⟨by rfl, ?_⟩) hHeld ?_
    rotate_left
    · (intro wx hSx; obtain ⟨⟨a0, a1, a2, a3, a4, a5⟩, _⟩ : (_ ∧ _) ∧ True := ⟨hSx.b.cells, trivial⟩; go_simp; (try with_reducible rfl))
    (try simp only [Act.put, List.getElem_toArray, List.getElem_cons_succ, List.getElem_cons_zero, List.setIfInBounds_toArray, List.set_cons_succ, List.set_cons_zero])
    refine wpAnyH_take (i := 12) (v := ?_) rfl (by kernel_rfl) (by kernel_rfl) (by kernel_rfl) (fun _ _ _ h => h) (Or.inl ⟨by rfl, ?_⟩) hHeld ?_
    rotate_left
    · (intro wx hSx; obtain ⟨⟨a0, a1, a2, a3, a4, a5⟩, _⟩ : (_ ∧ _) ∧ True := ⟨hSx.b.cells, trivial⟩; go_simp; (try with_reducible rfl))
    (try simp only [Act.put, List.getElem_toArray, List.getElem_cons_succ, List.getElem_cons_zero, List.setIfInBounds_toArray, List.set_cons_succ, List.set_cons_zero])
    refine wpAnyH_ready (rs := [9]) (by kernel_rfl) (by simp) ?_
    refine AllReadyH.cons rfl (fun K hK => ?_) AllReadyH.nil
    rw [if_pos (by rfl)]
    go_simp
    refine (HRD.out A8 c8 _ (HH.out.own.chs)).mono ?_
    rintro e w1 ⟨rfl, hb1⟩
    have HH := Lib.hid (HH.out.next hb1)
    (try simp only [])
    refine hK.out _ _ HH.out (fun hHeld => ?_)
    clear hb1
    clear hK K
    (try simp only [Act.put, List.getElem_toArray, List.getElem_cons_succ, List.getElem_cons_zero, List.setIfInBounds_toArray, List.set_cons_succ, List.set_cons_zero])
    refine wpAnyH_take (i := 10) (v := ?_) rfl (by kernel_rfl) (by kernel_rfl) (by kernel_rfl) (fun _ _ _ h => h) (Or.inl ⟨by rfl, ?_⟩) hHeld ?_
    rotate_left
    · (intro wx hSx; obtain ⟨⟨a0, a1, a2, a3, a4, a5⟩, _⟩ : (_ ∧ _) ∧ True := ⟨hSx.b.cells, trivial⟩; go_simp; (try with_reducible rfl))
    (try simp only [Act.put, List.getElem_toArray, List.getElem_cons_succ, List.getElem_cons_zero, List.setIfInBounds_toArray, List.set_cons_succ, List.set_cons_zero])
    refine wpAnyH_take (i := 13) (v := ?_) rfl (by kernel_rfl) (by kernel_rfl) (by kernel_rfl) (fun _ _ _ h => h) (Or.inl ⟨by rfl, ?_⟩) hHeld ?_
    rotate_left
    · (intro wx hSx; obtain ⟨⟨a0, a1, a2, a3, a4, a5⟩, _⟩ : (_ ∧ _) ∧ True := ⟨hSx.b.cells, trivial⟩; go_simp; (try with_reducible rfl))
    (try simp only [Act.put, List.getElem_toArray, List.getElem_cons_succ, List.getElem_cons_zero, List.setIfInBounds_toArray, List.set_cons_succ, List.set_cons_zero])
    refine wpAnyH_take (i := 14) (v := ?_) rfl (by kernel_rfl) (by kernel_rfl) (by kernel_rfl) (fun _ _ _ h => h) (Or.inl ⟨by rfl, ?_⟩) hHeld ?_
    rotate_left
    · (intro wx hSx; obtain ⟨⟨a0, a1, a2, a3, a4, a5⟩, _⟩ : (_ ∧ _) ∧ True := ⟨hSx.b.cells, trivial⟩; go_simp; (try with_reducible rfl))
    (try simp only [Act.put, List.getElem_toArray, List.getElem_cons_succ, List.getElem_cons_zero, List.setIfInBounds_toArray, List.set_cons_succ, List.set_cons_zero])
    refine wpAnyH_done (by kernel_rfl) ?_ _
    clear hHeld
    obtain ⟨a0, a1, a2, a3, a4, a5⟩ := HH.out.i.1
    obtain ⟨b0, b1, b2, b3, b4, b5⟩ := HH.out.b.cells
    obtain ⟨p0, p1, p2, p3, p4, p5⟩ := HH.out.o.cells
    have pf := HH.out.o.free
    have bf := HH.out.b.free
    go_wp2
    refine bodyPost_ret (results_cell_tmp rfl _ _ (w.heap.size + 1) _ _ _ _ rfl HH.out.out.1 Try.underlying28 rfl (by kernel_rfl)) rfl ?_
    exact ⟨_, rfl, HH.out.out.2.1, HH.out.out.2.2⟩
set_option maxRecDepth 100000 in
set_option maxHeartbeats 8000000 in
/-- spec.ReceiveData, where data is taken. -/
theorem sdat_fk (r : Rc) (o : Int) (d : ByteArray) (A : Option Addr) (cap B : Nat) (w : World) (hB : B ≤ w.heap.size) (hr : Chs w B A r.buf.chs) (hn : r.buf.chs.length ≤ 10000000) (hi : inB r.buf.chs) (hx : inRc r) (ho : -9223372036854775808 ≤ o ∧ o ≤ 9223372036854775807) (hd : sumC r.buf.chs + d.size ≤ 8000000) (hok : okRc r) (h0 : ¬ o < 0) (h1 : ¬ 4611686018427387903 - (d.size : Int) < o) (hb : ¬ badRc r (o + d.size) true) (hs : ¬ 1 < r.st) (hE : ¬ r.hi < o + (d.size : Int)) :
    Calls Try.prog 34 #[rcV r (.slice A r.buf.chs.length cap), .int .i64 o, .string d, .bool true] w fun e w' => ∃ v, e = .returned (.tuple #[rcV (rcvRc r o d true).1 v, .int .i64 (rcvRc r o d true).2]) ∧ OwnX w' w.heap.size v (rcvRc r o d true).1.buf.chs ∧ Below w.heap.size w w' := by
  have s1 : ∀ o1, (w.alloc o1).heap.size = w.heap.size + 1 := fun _ => by simp
  have s2 : ∀ o1 o2, ((w.alloc o1).alloc o2).heap.size = w.heap.size + 2 := fun _ _ => by simp
  have HI1 := Lib.hid ((InRc.start w r A cap 28 (hr.up hB)).alloc (.cells (rcC 0 0 (.slice none 0 0) 0 0 0) 28))
  have X2 := BoxR.new (w.alloc (.cells (rcC r.st r.buf.next (.slice A r.buf.chs.length cap) r.fin r.hi r.code) 28)) 0 0 (.slice none 0 0) 0 0 0
  rw [s1] at X2
  have HS2 := Lib.hid (s2 (.cells (rcC r.st r.buf.next (.slice A r.buf.chs.length cap) r.fin r.hi r.code) 28) (.cells (rcC 0 0 (.slice none 0 0) 0 0 0) 28))
  have HO1 := Lib.hid X2
  have HCP : Hid (∀ W, InRc w w.heap.size r A cap W → Calls Try.prog 46 #[rcV r (.slice A r.buf.chs.length cap)] W fun e w' => ∃ v, e = .returned (rcV r v) ∧ OwnC w' W.heap.size v r.buf.chs ∧ Below W.heap.size W w') := Lib.hid fun W h => scopyrc r A cap w.heap.size W (Nat.le_of_lt h.2.2.1) h.2.1 (by omega)
  have HIR : Hid (∀ W, InRc w w.heap.size r A cap W → Calls Try.prog 19 #[rcV r (.slice A r.buf.chs.length cap)] W fun e w' => e = .returned (.bool (decide (okRc r))) ∧ Below W.heap.size W w') := Lib.hid fun W h => sisrc r A cap w.heap.size W (Nat.le_of_lt h.2.2.1) h.2.1 (by omega) hi hx
  clear X2 s1 s2
  have hsz : (0 : Int) ≤ d.size ∧ (d.size : Int) ≤ 8000000 := by have := sumC_nonneg r.buf.chs; omega
  have hw : IntKind.i64.wrap (4611686018427387903 - (d.size : Int)) = 4611686018427387903 - (d.size : Int) := by rw [IntKind.wrap_i64]; clear ho hx; omega
  rw [decide_eq_true hok] at HIR
  have d0 : decide (o < 0) = false := decide_eq_false h0
  have d1 : decide (4611686018427387903 - (d.size : Int) < o) = false := decide_eq_false h1
  have hwe : wrap64 (o + (d.size : Int)) = o + (d.size : Int) := by clear ho hx hw; unfold wrap64; omega
  have HFN : Hid (∀ W, InRc w w.heap.size r A cap W → Calls Try.prog 48 #[rcV r (.slice A r.buf.chs.length cap), .int .i64 (o + (d.size : Int)), .bool true] W fun e w' => e = .returned (.int .i64 (if badRc r (o + d.size) true then 6 else 0)) ∧ Below W.heap.size W w') := Lib.hid fun W h => sfin r (o + d.size) true A cap w.heap.size W (Nat.le_of_lt h.2.2.1) h.2.1
  rw [if_neg hb] at HFN
  have ds : decide (1 < r.st) = false := decide_eq_false hs
  have hv : rcvRc r o d true = (fillRc ⟨1, insB r.buf o d, (o + (d.size : Int)), r.hi, r.code⟩, 0) := (if_neg (fun h => h ⟨hok, by omega, by omega⟩)).trans ((if_neg hb).trans ((if_neg hs).trans (by unfold datRc; rw [show max r.hi (o + (d.size : Int)) = r.hi by omega]; rfl)))
  rw [hv]
  have HNX := Lib.hid (insB_next r.buf o d)
  have HBO := Lib.hid (insB_ok r.buf o d hok.1.1)
  have HBI := Lib.hid (insB_in (o := o) hok.1.1 hd)
  have HBL := Lib.hid (insB_len2 r.buf o d)
  have HBS := Lib.hid (insB_sum r.buf o d hok.1.1)
  have HIN : Hid (∀ W, InRc w w.heap.size r A cap W → Calls Try.prog 63 #[bfV r.buf.next (.slice A r.buf.chs.length cap), .int .i64 o, .string d] W fun e w' => ∃ v, e = .returned (bfV (insB r.buf o d).next v) ∧ OwnC w' W.heap.size v (insB r.buf o d).chs ∧ Below W.heap.size W w') := Lib.hid fun W h => by
    rw [HNX.out]
    exact sins r.buf o d A cap w.heap.size W (Nat.le_of_lt h.2.2.1) h.2.1 hn hi hx.2.1 ho hd
  generalize insB r.buf o d = b at *
  have hbn := HBO.out.2
  have hwb : IntKind.i64.wrap (b.next + (rdyB b : Int)) = b.next + (rdyB b : Int) := by
    have h9 : b.next + (rdyB b : Int) ≤ 9223372036854775807 := by
      by_cases hz : rdyB b = 0
      · rw [hz]; omega
      · obtain ⟨_, c, l, hl, hcn, hcs⟩ := rdyB_pos hz
        have h8 := sumC_mem b.chs c (by rw [hl]; exact List.mem_cons_self ..)
        have h7 := HBS.out
        omega
    rw [IntKind.wrap_i64]
    clear ho hx hw hwe
    omega
  have HRD : Hid (∀ (Y : Option Addr) (cy : Nat) W, Chs W W.heap.size Y b.chs → Calls Try.prog 52 #[bfV b.next (.slice Y b.chs.length cy)] W fun e w' => e = .returned (.int .i64 (rdyB b : Nat)) ∧ Below W.heap.size W w') := Lib.hid fun Y cy W h => sready b Y cy W.heap.size W (Nat.le_refl _) h (by have := HBL.out; omega) HBI.out (by omega)
  have h9 : ¬ o + (d.size : Int) = -1 := by omega
  have g0 : (o + (d.size : Int) == -1) = false := by simpa using h9
  have g1 : (o + (d.size : Int) != -1) = true := by simpa using h9
  clear h9
  have HFZ : Hid (o + (d.size : Int) ≠ -1) := Lib.hid (by omega)
  obtain ⟨X, hX⟩ : ∃ X, fillRc ⟨1, b, (o + (d.size : Int)), r.hi, r.code⟩ = X := ⟨_, rfl⟩
  rw [hX]
  have HX := Lib.hid hX
  have d9 : decide (r.hi < o + (d.size : Int)) = false := decide_eq_false hE
  have m9 : max r.hi (o + (d.size : Int)) = r.hi := by omega
  have hE2 := hE
  clear hX hv hok h0 h1 hb hs hE hbn hsz hr hi hx hn ho hd
  go_enter Try.func34, Try.ntmps34
  obtain ⟨a0, a1, a2, a3, a4, a5⟩ := HI1.out.1
  go_wp2_with fail
  refine (HCP.out _ HI1.out).mono ?_
  rintro e w3 ⟨v, rfl, ho, hb⟩
  have HH := Lib.hid (FrX.start HI1.out HO1.out HS2.out hb ho.x)
  obtain ⟨A3, c3, rfl, _, _⟩ := ho.frs
  clear ho hb a0 a1 a2 a3 a4 a5
  go_upto_region 2 with fail
  generalize w3.alloc (.cells (rcC r.st r.buf.next (.slice A3 r.buf.chs.length c3) r.fin r.hi r.code) 28) = w4 at *
  generalize w3.heap.size = gx at *
  obtain ⟨a0, a1, a2, a3, a4, a5⟩ := HH.out.i.1
  go_wp2_with fail
  refine (HIR.out _ HH.out.i).mono ?_
  rintro e w1 ⟨rfl, hb1⟩
  have HH := Lib.hid (HH.out.next hb1)
  clear hb1 a0 a1 a2 a3 a4 a5
  obtain ⟨a0, a1, a2, a3, a4, a5⟩ := HH.out.i.1
  go_wp2_with fail
  refine (HFN.out _ HH.out.i).mono ?_
  rintro e w6 ⟨rfl, hb6⟩
  have HH := Lib.hid (HH.out.next hb6)
  clear hb6 a0 a1 a2 a3 a4 a5
  obtain ⟨a0, a1, a2, a3, a4, a5⟩ := HH.out.i.1
  obtain ⟨b0, b1, b2, b3, b4, b5⟩ := HH.out.b.cells
  obtain ⟨p0, p1, p2, p3, p4, p5⟩ := HH.out.o.cells
  have pf := HH.out.o.free
  have bf := HH.out.b.free
  go_upto_region 12 with fail
  have HH := Lib.hid (((HH.out.put4 r.hi).put3 (o + (d.size : Int))).put0 1)
  clear a0 a1 a2 a3 a4 a5 b0 b1 b2 b3 b4 b5 p0 p1 p2 p3 p4 p5 pf bf
  generalize ((w6.setCell ⟨gx, 4, none⟩ (.int .i64 r.hi)).setCell ⟨gx, 3, none⟩ (.int .i64 (o + (d.size : Int)))).setCell ⟨gx, 0, none⟩ (.int .i64 1) = w7 at *
  obtain ⟨a0, a1, a2, a3, a4, a5⟩ := HH.out.i.1
  go_wp2_with fail
  refine (HIN.out _ HH.out.i).mono ?_
  rintro e w8 ⟨v8, rfl, ho8, hb8⟩
  obtain ⟨A8, c8, rfl, _, _⟩ := ho8.frs
  have HX8 := Lib.hid (HH.out.next hb8)
  have HH := Lib.hid (HH.out.putB hb8 b (.slice A8 b.chs.length c8) ho8.x)
  clear ho8 hb8 a0 a1 a2 a3 a4 a5
  obtain ⟨b0, b1, b2, b3, b4, b5⟩ := HX8.out.b.cells
  have bf := HX8.out.b.free
  go_upto_region 13 with fail
  clear b0 b1 b2 b3 b4 b5 bf HX8
  generalize (w8.setCell ⟨gx, 1, none⟩ (.int .i64 b.next)).setCell ⟨gx, 2, none⟩ (.slice A8 b.chs.length c8) = w9 at *
  have HH := Lib.hid HH.out.drew
  by_cases hq : b.next + (rdyB b : Int) = (o + (d.size : Int))
  · have hXX := HX.out.symm.trans (if_pos ⟨HFZ.out, hq⟩)
    have tq : (b.next + (rdyB b : Int) == (o + (d.size : Int))) = true := by simpa using hq
    clear hq
    subst hXX
    clear HX
    refine wp_region_held_drew (S := (FrX w r A cap gx ⟨1, b, (o + (d.size : Int)), r.hi, r.code⟩ (.slice A8 b.chs.length c8))) (by kernel_rfl) HH.out (fun hHeld => ?_)
    refine wpAnyH_take (i := 0) (v := ?_) rfl (by kernel_rfl) (by kernel_rfl) (by kernel_rfl) (fun _ _ _ h => h) (Or.inl ⟨by rfl, ?_⟩) hHeld ?_
    rotate_left
    · (intro wx hSx; obtain ⟨⟨a0, a1, a2, a3, a4, a5⟩, _⟩ : (_ ∧ _) ∧ True := ⟨hSx.b.cells, trivial⟩; go_simp; (try with_reducible rfl))
    (try simp only [Act.put, List.getElem_toArray, List.getElem_cons_zero, List.setIfInBounds_toArray, List.set_cons_succ, List.set_cons_zero])
    refine wpAnyH_take (i := 1) (v := ?_) rfl (by kernel_rfl) (by kernel_rfl) (by kernel_rfl) (fun _ _ _ h => h) (Or.inl ⟨by rfl, ?_⟩) hHeld ?_
    rotate_left
    · (intro wx hSx; obtain ⟨⟨a0, a1, a2, a3, a4, a5⟩, _⟩ : (_ ∧ _) ∧ True := ⟨hSx.b.cells, trivial⟩; go_simp; (try with_reducible rfl))
    (try simp only [Act.put, List.getElem_toArray, List.getElem_cons_succ, List.getElem_cons_zero, List.setIfInBounds_toArray, List.set_cons_succ, List.set_cons_zero])
    refine wpAnyH_take (i := 2) (v := ?_) rfl (by kernel_rfl) (by kernel_rfl) (by kernel_rfl) (fun _ _ _ h => h) (Or.inl ⟨by rfl, ?_⟩) hHeld ?_
    rotate_left
    · (intro wx hSx; obtain ⟨⟨a0, a1, a2, a3, a4, a5⟩, _⟩ : (_ ∧ _) ∧ True := ⟨hSx.b.cells, trivial⟩; go_simp; (try with_reducible rfl))
    (try simp only [Act.put, List.getElem_toArray, List.getElem_cons_succ, List.getElem_cons_zero, List.setIfInBounds_toArray, List.set_cons_succ, List.set_cons_zero])
    refine wpAnyH_take (i := 3) (v := ?_) rfl (by kernel_rfl) (by kernel_rfl) (by kernel_rfl) (fun _ _ _ h => h) (Or.inl ⟨by rfl, ?_⟩) hHeld ?_
    rotate_left
    · (intro wx hSx; obtain ⟨⟨a0, a1, a2, a3, a4, a5⟩, _⟩ : (_ ∧ _) ∧ True := ⟨hSx.b.cells, trivial⟩; go_simp; (try with_reducible rfl))
    (try simp only [Act.put, List.getElem_toArray, List.getElem_cons_succ, List.getElem_cons_zero, List.setIfInBounds_toArray, List.set_cons_succ, List.set_cons_zero])
    refine wpAnyH_take (i := 4) (v := ?_) rfl (by kernel_rfl) (by kernel_rfl) (by kernel_rfl) (fun _ _ _ h => h) (Or.inl ⟨by rfl, ?_⟩) hHeld ?_
    rotate_left
    · (intro wx hSx; obtain ⟨⟨a0, a1, a2, a3, a4, a5⟩, _⟩ : (_ ∧ _) ∧ True := ⟨hSx.b.cells, trivial⟩; go_simp; (try with_reducible rfl))
    (try simp only [Act.put, List.getElem_toArray, List.getElem_cons_succ, List.getElem_cons_zero, List.setIfInBounds_toArray, List.set_cons_succ, List.set_cons_zero])
    refine wpAnyH_take (i := 5) (v := ?_) rfl (by kernel_rfl) (by kernel_rfl) (by kernel_rfl) (fun _ _ _ h => h) (Or.inl ⟨by rfl, ?_⟩) hHeld ?_
    rotate_left
    · (intro wx hSx; obtain ⟨⟨a0, a1, a2, a3, a4, a5⟩, _⟩ : (_ ∧ _) ∧ True := ⟨hSx.b.cells, trivial⟩; go_simp; (try with_reducible rfl))
    (try simp only [Act.put, List.getElem_toArray, List.getElem_cons_succ, List.getElem_cons_zero, List.setIfInBounds_toArray, List.set_cons_succ, List.set_cons_zero])
    refine wpAnyH_take (i := 6) (v := ?_) rfl (by kernel_rfl) (by kernel_rfl) (by kernel_rfl) (fun _ _ _ h => h) (Or.inl ⟨by rfl, ?_⟩) hHeld ?_
    rotate_left
    · (intro wx hSx; obtain ⟨⟨a0, a1, a2, a3, a4, a5⟩, _⟩ : (_ ∧ _) ∧ True := ⟨hSx.b.cells, trivial⟩; go_simp; (try with_reducible rfl))
    (try simp only [Act.put, List.getElem_toArray, List.getElem_cons_succ, List.getElem_cons_zero, List.setIfInBounds_toArray, List.set_cons_succ, List.set_cons_zero])
    refine wpAnyH_take (i := 7) (v := ?_) rfl (by kernel_rfl) (by kernel_rfl) (by kernel_rfl) (fun _ _ _ h => h) (Or.inl ⟨by rfl, ?_⟩) hHeld ?_
    rotate_left
    · (intro wx hSx; obtain ⟨⟨a0, a1, a2, a3, a4, a5⟩, _⟩ : (_ ∧ _) ∧ True := ⟨hSx.b.cells, trivial⟩; go_simp; (try with_reducible rfl))
    (try simp only [Act.put, List.getElem_toArray, List.getElem_cons_succ, List.getElem_cons_zero, List.setIfInBounds_toArray, List.set_cons_succ, List.set_cons_zero])
    refine wpAnyH_take (i := 8) (v := ?_) rfl (by kernel_rfl) (by kernel_rfl) (by kernel_rfl) (fun _ _ _ h => h) (Or.inl ⟨by rfl, ?_⟩) hHeld ?_
    rotate_left
    · (intro wx hSx; obtain ⟨⟨a0, a1, a2, a3, a4, a5⟩, _⟩ : (_ ∧ _) ∧ True := ⟨hSx.b.cells, trivial⟩; go_simp; (try with_reducible rfl))
    (try simp only [Act.put, List.getElem_toArray, List.getElem_cons_succ, List.getElem_cons_zero, List.setIfInBounds_toArray, List.set_cons_succ, List.set_cons_zero])
    refine wpAnyH_take (i := 11) (v := ?_) rfl (by kernel_rfl) (by kernel_rfl) (by kernel_rfl) (fun _ _ _ h => h) (Or.inl ⟨by rfl, ?_⟩) hHeld ?_
    rotate_left
    · (intro wx hSx; obtain ⟨⟨a0, a1, a2, a3, a4, a5⟩, _⟩ : (_ ∧ _) ∧ True := ⟨hSx.b.cells, trivial⟩; go_simp; (try with_reducible rfl))
    (try simp only [Act.put, List.getElem_toArray, List.getElem_cons_succ, List.getElem_cons_zero, List.setIfInBounds_toArray, List.set_cons_succ, List.set_cons_zero])
    refine wpAnyH_take (i := 12) (v := ?_) rfl (by kernel_rfl) (by kernel_rfl) (by kernel_rfl) (fun _ _ _ h => h) (Or.inl ⟨by rfl, ?_⟩) hHeld ?_
    rotate_left
    · (intro wx hSx; obtain ⟨⟨a0, a1, a2, a3, a4, a5⟩, _⟩ : (_ ∧ _) ∧ True := ⟨hSx.b.cells, trivial⟩; go_simp; (try with_reducible rfl))
    (try simp only [Act.put, List.getElem_toArray, List.getElem_cons_succ, List.getElem_cons_zero, List.setIfInBounds_toArray, List.set_cons_succ, List.set_cons_zero])
    refine wpAnyH_ready (rs := [9]) (by kernel_rfl) (by simp) ?_
    refine AllReadyH.cons rfl (fun K hK => ?_) AllReadyH.nil
    rw [if_pos (by rfl)]
    go_simp
    refine (HRD.out A8 c8 _ (HH.out.own.chs)).mono ?_
    rintro e w1 ⟨rfl, hb1⟩
    have HH := Lib.hid (HH.out.next hb1)
    (try simp only [])
    refine hK.out _ _ HH.out (fun hHeld => ?_)
    clear hb1
    clear hK K
    (try simp only [Act.put, List.getElem_toArray, List.getElem_cons_succ, List.getElem_cons_zero, List.setIfInBounds_toArray, List.set_cons_succ, List.set_cons_zero])
    refine wpAnyH_take (i := 10) (v := ?_) rfl (by kernel_rfl) (by kernel_rfl) (by kernel_rfl) (fun _ _ _ h => h) (Or.inl ⟨by rfl, ?_⟩) hHeld ?_
    rotate_left
    · (intro wx hSx; obtain ⟨⟨a0, a1, a2, a3, a4, a5⟩, _⟩ : (_ ∧ _) ∧ True := ⟨hSx.b.cells, trivial⟩; go_simp; (try with_reducible rfl))
    (try simp only [Act.put, List.getElem_toArray, List.getElem_cons_succ, List.getElem_cons_zero, List.setIfInBounds_toArray, List.set_cons_succ, List.set_cons_zero])
    refine wpAnyH_take (i := 13) (v := ?_) rfl (by kernel_rfl) (by kernel_rfl) (by kernel_rfl) (fun _ _ _ h => h) (Or.inl ⟨by rfl, ?_⟩) hHeld ?_
    rotate_left
    · (intro wx hSx; obtain ⟨⟨a0, a1, a2, a3, a4, a5⟩, _⟩ : (_ ∧ _) ∧ True := ⟨hSx.b.cells, trivial⟩; go_simp; (try with_reducible rfl))
    (try simp only [Act.put, List.getElem_toArray, List.getElem_cons_succ, List.getElem_cons_zero, List.setIfInBounds_toArray, List.set_cons_succ, List.set_cons_zero])
    refine wpAnyH_take (i := 14) (v := ?_) rfl (by kernel_rfl) (by kernel_rfl) (by kernel_rfl) (fun _ _ _ h => h) (Or.inl ⟨by rfl, ?_⟩) hHeld ?_
    rotate_left
    · (intro wx hSx; obtain ⟨⟨a0, a1, a2, a3, a4, a5⟩, _⟩ : (_ ∧ _) ∧ True := ⟨hSx.b.cells, trivial⟩; go_simp; (try with_reducible rfl))
    (try simp only [Act.put, List.getElem_toArray, List.getElem_cons_succ, List.getElem_cons_zero, List.setIfInBounds_toArray, List.set_cons_succ, List.set_cons_zero])
    refine wpAnyH_done (by kernel_rfl) ?_ _
    clear hHeld
    obtain ⟨b0, b1, b2, b3, b4, b5⟩ := HH.out.b.cells
    have bf := HH.out.b.free
    go_upto_region 15 with fail
    have HH := Lib.hid (HH.out.put0 2)
    clear b0 b1 b2 b3 b4 b5 bf
    obtain ⟨a0, a1, a2, a3, a4, a5⟩ := HH.out.i.1
    obtain ⟨b0, b1, b2, b3, b4, b5⟩ := HH.out.b.cells
    obtain ⟨p0, p1, p2, p3, p4, p5⟩ := HH.out.o.cells
    have pf := HH.out.o.free
    have bf := HH.out.b.free
    go_wp2
    refine bodyPost_ret (results_cell_tmp rfl _ _ (w.heap.size + 1) _ _ _ _ rfl HH.out.out.1 Try.underlying28 rfl (by kernel_rfl)) rfl ?_
    exact ⟨_, rfl, HH.out.out.2.1, HH.out.out.2.2⟩
  · have hXX := HX.out.symm.trans (if_neg (fun h => hq h.2))
    have tq : (b.next + (rdyB b : Int) == (o + (d.size : Int))) = false := by simpa using hq
    clear hq
    subst hXX
    clear HX
    refine wp_region_held_drew (S := (FrX w r A cap gx ⟨1, b, (o + (d.size : Int)), r.hi, r.code⟩ (.slice A8 b.chs.length c8))) (by kernel_rfl) HH.out (fun hHeld => ?_)
    refine wpAnyH_take (i := 0) (v := ?_) rfl (by kernel_rfl) (by kernel_rfl) (by kernel_rfl) (fun _ _ _ h => h) (Or.inl ⟨by rfl, ?_⟩) hHeld ?_
    rotate_left
    · (intro wx hSx; obtain ⟨⟨a0, a1, a2, a3, a4, a5⟩, _⟩ : (_ ∧ _) ∧ True := ⟨hSx.b.cells, trivial⟩; go_simp; (try with_reducible rfl))
    (try simp only [Act.put, List.getElem_toArray, List.getElem_cons_zero, List.setIfInBounds_toArray, List.set_cons_succ, List.set_cons_zero])
    refine wpAnyH_take (i := 1) (v := ?_) rfl (by kernel_rfl) (by kernel_rfl) (by kernel_rfl) (fun _ _ _ h => h) (Or.inl ⟨by rfl, ?_⟩) hHeld ?_
    rotate_left
    · (intro wx hSx; obtain ⟨⟨a0, a1, a2, a3, a4, a5⟩, _⟩ : (_ ∧ _) ∧ True := ⟨hSx.b.cells, trivial⟩; go_simp; (try with_reducible rfl))
    (try simp only [Act.put, List.getElem_toArray, List.getElem_cons_succ, List.getElem_cons_zero, List.setIfInBounds_toArray, List.set_cons_succ, List.set_cons_zero])
    refine wpAnyH_take (i := 2) (v := ?_) rfl (by kernel_rfl) (by kernel_rfl) (by kernel_rfl) (fun _ _ _ h => h) (Or.inl ⟨by rfl, ?_⟩) hHeld ?_
    rotate_left
    · (intro wx hSx; obtain ⟨⟨a0, a1, a2, a3, a4, a5⟩, _⟩ : (_ ∧ _) ∧ True := ⟨hSx.b.cells, trivial⟩; go_simp; (try with_reducible rfl))
    (try simp only [Act.put, List.getElem_toArray, List.getElem_cons_succ, List.getElem_cons_zero, List.setIfInBounds_toArray, List.set_cons_succ, List.set_cons_zero])
    refine wpAnyH_take (i := 3) (v := ?_) rfl (by kernel_rfl) (by kernel_rfl) (by kernel_rfl) (fun _ _ _ h => h) (Or.inl ⟨by rfl, ?_⟩) hHeld ?_
    rotate_left
    · (intro wx hSx; obtain ⟨⟨a0, a1, a2, a3, a4, a5⟩, _⟩ : (_ ∧ _) ∧ True := ⟨hSx.b.cells, trivial⟩; go_simp; (try with_reducible rfl))
    (try simp only [Act.put, List.getElem_toArray, List.getElem_cons_succ, List.getElem_cons_zero, List.setIfInBounds_toArray, List.set_cons_succ, List.set_cons_zero])
    refine wpAnyH_take (i := 4) (v := ?_) rfl (by kernel_rfl) (by kernel_rfl) (by kernel_rfl) (fun _ _ _ h => h) (Or.inl ⟨by rfl, ?_⟩) hHeld ?_
    rotate_left
    · (intro wx hSx; obtain ⟨⟨a0, a1, a2, a3, a4, a5⟩, _⟩ : (_ ∧ _) ∧ True := ⟨hSx.b.cells, trivial⟩; go_simp; (try with_reducible rfl))
    (try simp only [Act.put, List.getElem_toArray, List.getElem_cons_succ, List.getElem_cons_zero, List.setIfInBounds_toArray, List.set_cons_succ, List.set_cons_zero])
    refine wpAnyH_take (i := 5) (v := ?_) rfl (by kernel_rfl) (by kernel_rfl) (by kernel_rfl) (fun _ _ _ h => h) (Or.inl ⟨by rfl, ?_⟩) hHeld ?_
    rotate_left
    · (intro wx hSx; obtain ⟨⟨a0, a1, a2, a3, a4, a5⟩, _⟩ : (_ ∧ _) ∧ True := ⟨hSx.b.cells, trivial⟩; go_simp; (try with_reducible rfl))
    (try simp only [Act.put, List.getElem_toArray, List.getElem_cons_succ, List.getElem_cons_zero, List.setIfInBounds_toArray, List.set_cons_succ, List.set_cons_zero])
    refine wpAnyH_take (i := 6) (v := ?_) rfl (by kernel_rfl) (by kernel_rfl) (by kernel_rfl) (fun _ _ _ h => h) (Or.inl ⟨by rfl, ?_⟩) hHeld ?_
    rotate_left
    · (intro wx hSx; obtain ⟨⟨a0, a1, a2, a3, a4, a5⟩, _⟩ : (_ ∧ _) ∧ True := ⟨hSx.b.cells, trivial⟩; go_simp; (try with_reducible rfl))
    (try simp only [Act.put, List.getElem_toArray, List.getElem_cons_succ, List.getElem_cons_zero, List.setIfInBounds_toArray, List.set_cons_succ, List.set_cons_zero])
    refine wpAnyH_take (i := 7) (v := ?_) rfl (by kernel_rfl) (by kernel_rfl) (by kernel_rfl) (fun _ _ _ h => h) (Or.inl ⟨by rfl, ?_⟩) hHeld ?_
    rotate_left
    · (intro wx hSx; obtain ⟨⟨a0, a1, a2, a3, a4, a5⟩, _⟩ : (_ ∧ _) ∧ True := ⟨hSx.b.cells, trivial⟩; go_simp; (try with_reducible rfl))
    (try simp only [Act.put, List.getElem_toArray, List.getElem_cons_succ, List.getElem_cons_zero, List.setIfInBounds_toArray, List.set_cons_succ, List.set_cons_zero])
    refine wpAnyH_take (i := 8) (v := ?_) rfl (by kernel_rfl) (by kernel_rfl) (by kernel_rfl) (fun _ _ _ h => h) (Or.inl ⟨by rfl, ?_⟩) hHeld ?_
    rotate_left
    · (intro wx hSx; obtain ⟨⟨a0, a1, a2, a3, a4, a5⟩, _⟩ : (_ ∧ _) ∧ True := ⟨hSx.b.cells, trivial⟩; go_simp; (try with_reducible rfl))
    (try simp only [Act.put, List.getElem_toArray, List.getElem_cons_succ, List.getElem_cons_zero, List.setIfInBounds_toArray, List.set_cons_succ, List.set_cons_zero])
    refine wpAnyH_take (i := 11) (v := ?_) rfl (by kernel_rfl) (by kernel_rfl) (by kernel_rfl) (fun _ _ _ h => h) (Or.inl ⟨by rfl, ?_⟩) hHeld ?_
    rotate_left
    · (intro wx hSx; obtain ⟨⟨a0, a1, a2, a3, a4, a5⟩, _⟩ : (_ ∧ _) ∧ True := ⟨hSx.b.cells, trivial⟩; go_simp; (try with_reducible rfl))
    (try simp only [Act.put, List.getElem_toArray, List.getElem_cons_succ, List.getElem_cons_zero, List.setIfInBounds_toArray, List.set_cons_succ, List.set_cons_zero])
    refine wpAnyH_take (i := 12) (v := ?_) rfl (by kernel_rfl) (by kernel_rfl) (by kernel_rfl) (fun _ _ _ h => h) (Or.inl ⟨by rfl, ?_⟩) hHeld ?_
    rotate_left
    · (intro wx hSx; obtain ⟨⟨a0, a1, a2, a3, a4, a5⟩, _⟩ : (_ ∧ _) ∧ True := ⟨hSx.b.cells, trivial⟩; go_simp; (try with_reducible rfl))
    (try simp only [Act.put, List.getElem_toArray, List.getElem_cons_succ, List.getElem_cons_zero, List.setIfInBounds_toArray, List.set_cons_succ, List.set_cons_zero])
    refine wpAnyH_ready (rs := [9]) (by kernel_rfl) (by simp) ?_
    refine AllReadyH.cons rfl (fun K hK => ?_) AllReadyH.nil
    rw [if_pos (by rfl)]
    go_simp
    refine (HRD.out A8 c8 _ (HH.out.own.chs)).mono ?_
    rintro e w1 ⟨rfl, hb1⟩
    have HH := Lib.hid (HH.out.next hb1)
    (try simp only [])
    refine hK.out _ _ HH.out (fun hHeld => ?_)
    clear hb1
    clear hK K
    (try simp only [Act.put, List.getElem_toArray, List.getElem_cons_succ, List.getElem_cons_zero, List.setIfInBounds_toArray, List.set_cons_succ, List.set_cons_zero])
    refine wpAnyH_take (i := 10) (v := ?_) rfl (by kernel_rfl) (by kernel_rfl) (by kernel_rfl) (fun _ _ _ h => h) (Or.inl ⟨by rfl, ?_⟩) hHeld ?_
    rotate_left
    · (intro wx hSx; obtain ⟨⟨a0, a1, a2, a3, a4, a5⟩, _⟩ : (_ ∧ _) ∧ True := ⟨hSx.b.cells, trivial⟩; go_simp; (try with_reducible rfl))
    (try simp only [Act.put, List.getElem_toArray, List.getElem_cons_succ, List.getElem_cons_zero, List.setIfInBounds_toArray, List.set_cons_succ, List.set_cons_zero])
    refine wpAnyH_take (i := 13) (v := ?_) rfl (by kernel_rfl) (by kernel_rfl) (by kernel_rfl) (fun _ _ _ h => h) (Or.inl ⟨by rfl, ?_⟩) hHeld ?_
    rotate_left
    · (intro wx hSx; obtain ⟨⟨a0, a1, a2, a3, a4, a5⟩, _⟩ : (_ ∧ _) ∧ True := ⟨hSx.b.cells, trivial⟩; go_simp; (try with_reducible rfl))
    (try simp only [Act.put, List.getElem_toArray, List.getElem_cons_succ, List.getElem_cons_zero, List.setIfInBounds_toArray, List.set_cons_succ, List.set_cons_zero])
    refine wpAnyH_take (i := 14) (v := ?_) rfl (by kernel_rfl) (by kernel_rfl) (by kernel_rfl) (fun _ _ _ h => h) (Or.inl ⟨by rfl, ?_⟩) hHeld ?_
    rotate_left
    · (intro wx hSx; obtain ⟨⟨a0, a1, a2, a3, a4, a5⟩, _⟩ : (_ ∧ _) ∧ True := ⟨hSx.b.cells, trivial⟩; go_simp; (try with_reducible rfl))
    (try simp only [Act.put, List.getElem_toArray, List.getElem_cons_succ, List.getElem_cons_zero, List.setIfInBounds_toArray, List.set_cons_succ, List.set_cons_zero])
    refine wpAnyH_done (by kernel_rfl) ?_ _
    clear hHeld
    obtain ⟨a0, a1, a2, a3, a4, a5⟩ := HH.out.i.1
    obtain ⟨b0, b1, b2, b3, b4, b5⟩ := HH.out.b.cells
    obtain ⟨p0, p1, p2, p3, p4, p5⟩ := HH.out.o.cells
    have pf := HH.out.o.free
    have bf := HH.out.b.free
    go_wp2
    refine bodyPost_ret (results_cell_tmp rfl _ _ (w.heap.size + 1) _ _ _ _ rfl HH.out.out.1 Try.underlying28 rfl (by kernel_rfl)) rfl ?_
    exact ⟨_, rfl, HH.out.out.2.1, HH.out.out.2.2⟩
set_option maxRecDepth 100000 in
set_option maxHeartbeats 8000000 in
/-- spec.ReceiveData, where data is taken. -/
theorem sdat_nu (r : Rc) (o : Int) (d : ByteArray) (A : Option Addr) (cap B : Nat) (w : World) (hB : B ≤ w.heap.size) (hr : Chs w B A r.buf.chs) (hn : r.buf.chs.length ≤ 10000000) (hi : inB r.buf.chs) (hx : inRc r) (ho : -9223372036854775808 ≤ o ∧ o ≤ 9223372036854775807) (hd : sumC r.buf.chs + d.size ≤ 8000000) (hok : okRc r) (h0 : ¬ o < 0) (h1 : ¬ 4611686018427387903 - (d.size : Int) < o) (hb : ¬ badRc r (o + d.size) false) (hs : ¬ 1 < r.st) (hE : r.hi < o + (d.size : Int)) :
    Calls Try.prog 34 #[rcV r (.slice A r.buf.chs.length cap), .int .i64 o, .string d, .bool false] w fun e w' => ∃ v, e = .returned (.tuple #[rcV (rcvRc r o d false).1 v, .int .i64 (rcvRc r o d false).2]) ∧ OwnX w' w.heap.size v (rcvRc r o d false).1.buf.chs ∧ Below w.heap.size w w' := by
  have s1 : ∀ o1, (w.alloc o1).heap.size = w.heap.size + 1 := fun _ => by simp
  have s2 : ∀ o1 o2, ((w.alloc o1).alloc o2).heap.size = w.heap.size + 2 := fun _ _ => by simp
  have HI1 := Lib.hid ((InRc.start w r A cap 28 (hr.up hB)).alloc (.cells (rcC 0 0 (.slice none 0 0) 0 0 0) 28))
  have X2 := BoxR.new (w.alloc (.cells (rcC r.st r.buf.next (.slice A r.buf.chs.length cap) r.fin r.hi r.code) 28)) 0 0 (.slice none 0 0) 0 0 0
  rw [s1] at X2
  have HS2 := Lib.hid (s2 (.cells (rcC r.st r.buf.next (.slice A r.buf.chs.length cap) r.fin r.hi r.code) 28) (.cells (rcC 0 0 (.slice none 0 0) 0 0 0) 28))
  have HO1 := Lib.hid X2
  have HCP : Hid (∀ W, InRc w w.heap.size r A cap W → Calls Try.prog 46 #[rcV r (.slice A r.buf.chs.length cap)] W fun e w' => ∃ v, e = .returned (rcV r v) ∧ OwnC w' W.heap.size v r.buf.chs ∧ Below W.heap.size W w') := Lib.hid fun W h => scopyrc r A cap w.heap.size W (Nat.le_of_lt h.2.2.1) h.2.1 (by omega)
  have HIR : Hid (∀ W, InRc w w.heap.size r A cap W → Calls Try.prog 19 #[rcV r (.slice A r.buf.chs.length cap)] W fun e w' => e = .returned (.bool (decide (okRc r))) ∧ Below W.heap.size W w') := Lib.hid fun W h => sisrc r A cap w.heap.size W (Nat.le_of_lt h.2.2.1) h.2.1 (by omega) hi hx
  clear X2 s1 s2
  have hsz : (0 : Int) ≤ d.size ∧ (d.size : Int) ≤ 8000000 := by have := sumC_nonneg r.buf.chs; omega
  have hw : IntKind.i64.wrap (4611686018427387903 - (d.size : Int)) = 4611686018427387903 - (d.size : Int) := by rw [IntKind.wrap_i64]; clear ho hx; omega
  rw [decide_eq_true hok] at HIR
  have d0 : decide (o < 0) = false := decide_eq_false h0
  have d1 : decide (4611686018427387903 - (d.size : Int) < o) = false := decide_eq_false h1
  have hwe : wrap64 (o + (d.size : Int)) = o + (d.size : Int) := by clear ho hx hw; unfold wrap64; omega
  have HFN : Hid (∀ W, InRc w w.heap.size r A cap W → Calls Try.prog 48 #[rcV r (.slice A r.buf.chs.length cap), .int .i64 (o + (d.size : Int)), .bool false] W fun e w' => e = .returned (.int .i64 (if badRc r (o + d.size) false then 6 else 0)) ∧ Below W.heap.size W w') := Lib.hid fun W h => sfin r (o + d.size) false A cap w.heap.size W (Nat.le_of_lt h.2.2.1) h.2.1
  rw [if_neg hb] at HFN
  have ds : decide (1 < r.st) = false := decide_eq_false hs
  have hv : rcvRc r o d false = (fillRc ⟨r.st, insB r.buf o d, r.fin, (o + (d.size : Int)), r.code⟩, 0) := (if_neg (fun h => h ⟨hok, by omega, by omega⟩)).trans ((if_neg hb).trans ((if_neg hs).trans (by unfold datRc; rw [show max r.hi (o + (d.size : Int)) = (o + (d.size : Int)) by omega]; rfl)))
  rw [hv]
  have HNX := Lib.hid (insB_next r.buf o d)
  have HBO := Lib.hid (insB_ok r.buf o d hok.1.1)
  have HBI := Lib.hid (insB_in (o := o) hok.1.1 hd)
  have HBL := Lib.hid (insB_len2 r.buf o d)
  have HBS := Lib.hid (insB_sum r.buf o d hok.1.1)
  have HIN : Hid (∀ W, InRc w w.heap.size r A cap W → Calls Try.prog 63 #[bfV r.buf.next (.slice A r.buf.chs.length cap), .int .i64 o, .string d] W fun e w' => ∃ v, e = .returned (bfV (insB r.buf o d).next v) ∧ OwnC w' W.heap.size v (insB r.buf o d).chs ∧ Below W.heap.size W w') := Lib.hid fun W h => by
    rw [HNX.out]
    exact sins r.buf o d A cap w.heap.size W (Nat.le_of_lt h.2.2.1) h.2.1 hn hi hx.2.1 ho hd
  generalize insB r.buf o d = b at *
  have hbn := HBO.out.2
  have hwb : IntKind.i64.wrap (b.next + (rdyB b : Int)) = b.next + (rdyB b : Int) := by
    have h9 : b.next + (rdyB b : Int) ≤ 9223372036854775807 := by
      by_cases hz : rdyB b = 0
      · rw [hz]; omega
      · obtain ⟨_, c, l, hl, hcn, hcs⟩ := rdyB_pos hz
        have h8 := sumC_mem b.chs c (by rw [hl]; exact List.mem_cons_self ..)
        have h7 := HBS.out
        omega
    rw [IntKind.wrap_i64]
    clear ho hx hw hwe
    omega
  have HRD : Hid (∀ (Y : Option Addr) (cy : Nat) W, Chs W W.heap.size Y b.chs → Calls Try.prog 52 #[bfV b.next (.slice Y b.chs.length cy)] W fun e w' => e = .returned (.int .i64 (rdyB b : Nat)) ∧ Below W.heap.size W w') := Lib.hid fun Y cy W h => sready b Y cy W.heap.size W (Nat.le_refl _) h (by have := HBL.out; omega) HBI.out (by omega)
  obtain ⟨X, hX⟩ : ∃ X, fillRc ⟨r.st, b, r.fin, (o + (d.size : Int)), r.code⟩ = X := ⟨_, rfl⟩
  rw [hX]
  have HX := Lib.hid hX
  have d9 : decide (r.hi < o + (d.size : Int)) = true := decide_eq_true hE
  have m9 : max r.hi (o + (d.size : Int)) = (o + (d.size : Int)) := by omega
  have hE2 := hE
  clear hX hv hok h0 h1 hb hs hE hbn hsz hr hi hx hn ho hd
  go_enter Try.func34, Try.ntmps34
  obtain ⟨a0, a1, a2, a3, a4, a5⟩ := HI1.out.1
  go_wp2_with fail
  refine (HCP.out _ HI1.out).mono ?_
  rintro e w3 ⟨v, rfl, ho, hb⟩
  have HH := Lib.hid (FrX.start HI1.out HO1.out HS2.out hb ho.x)
  obtain ⟨A3, c3, rfl, _, _⟩ := ho.frs
  clear ho hb a0 a1 a2 a3 a4 a5
  go_upto_region 2 with fail
  generalize w3.alloc (.cells (rcC r.st r.buf.next (.slice A3 r.buf.chs.length c3) r.fin r.hi r.code) 28) = w4 at *
  generalize w3.heap.size = gx at *
  obtain ⟨a0, a1, a2, a3, a4, a5⟩ := HH.out.i.1
  go_wp2_with fail
  refine (HIR.out _ HH.out.i).mono ?_
  rintro e w1 ⟨rfl, hb1⟩
  have HH := Lib.hid (HH.out.next hb1)
  clear hb1 a0 a1 a2 a3 a4 a5
  obtain ⟨a0, a1, a2, a3, a4, a5⟩ := HH.out.i.1
  go_wp2_with fail
  refine (HFN.out _ HH.out.i).mono ?_
  rintro e w6 ⟨rfl, hb6⟩
  have HH := Lib.hid (HH.out.next hb6)
  clear hb6 a0 a1 a2 a3 a4 a5
  obtain ⟨a0, a1, a2, a3, a4, a5⟩ := HH.out.i.1
  obtain ⟨b0, b1, b2, b3, b4, b5⟩ := HH.out.b.cells
  obtain ⟨p0, p1, p2, p3, p4, p5⟩ := HH.out.o.cells
  have pf := HH.out.o.free
  have bf := HH.out.b.free
  go_upto_region 12 with fail
  have HH := Lib.hid (HH.out.put4 (o + (d.size : Int)))
  clear a0 a1 a2 a3 a4 a5 b0 b1 b2 b3 b4 b5 p0 p1 p2 p3 p4 p5 pf bf
  generalize w6.setCell ⟨gx, 4, none⟩ (.int .i64 (o + (d.size : Int))) = w7 at *
  obtain ⟨a0, a1, a2, a3, a4, a5⟩ := HH.out.i.1
  go_wp2_with fail
  refine (HIN.out _ HH.out.i).mono ?_
  rintro e w8 ⟨v8, rfl, ho8, hb8⟩
  obtain ⟨A8, c8, rfl, _, _⟩ := ho8.frs
  have HX8 := Lib.hid (HH.out.next hb8)
  have HH := Lib.hid (HH.out.putB hb8 b (.slice A8 b.chs.length c8) ho8.x)
  clear ho8 hb8 a0 a1 a2 a3 a4 a5
  obtain ⟨b0, b1, b2, b3, b4, b5⟩ := HX8.out.b.cells
  have bf := HX8.out.b.free
  go_upto_region 13 with fail
  clear b0 b1 b2 b3 b4 b5 bf HX8
  generalize (w8.setCell ⟨gx, 1, none⟩ (.int .i64 b.next)).setCell ⟨gx, 2, none⟩ (.slice A8 b.chs.length c8) = w9 at *
  have HH := Lib.hid HH.out.drew
  by_cases hf : r.fin = -1
  · have hXX := HX.out.symm.trans (if_neg (fun h => absurd hf h.1))
    have g0 : (r.fin == -1) = true := by simpa using hf
    have g1 : (r.fin != -1) = false := by simpa using hf
    clear hf
    subst hXX
    clear HX
    refine wp_region_held_drew (S := (FrX w r A cap gx ⟨r.st, b, r.fin, (o + (d.size : Int)), r.code⟩ (.slice A8 b.chs.length c8))) (by kernel_rfl) HH.out (fun hHeld => ?_)
    refine wpAnyH_take (i := 0) (v := ?_) rfl (by kernel_rfl) (by kernel_rfl) (by kernel_rfl) (fun _ _ _ h => h) (Or.inl ⟨by rfl, ?_⟩) hHeld ?_
    rotate_left
    · (intro wx hSx; obtain ⟨⟨a0, a1, a2, a3, a4, a5⟩, _⟩ : (_ ∧ _) ∧ True := ⟨hSx.b.cells, trivial⟩; go_simp; (try with_reducible rfl))
    (try simp only [Act.put, List.getElem_toArray, List.getElem_cons_zero, List.setIfInBounds_toArray, List.set_cons_succ, List.set_cons_zero])
    refine wpAnyH_take (i := 1) (v := ?_) rfl (by kernel_rfl) (by kernel_rfl) (by kernel_rfl) (fun _ _ _ h => h) (Or.inl ⟨by rfl, ?_⟩) hHeld ?_
    rotate_left
    · (intro wx hSx; obtain ⟨⟨a0, a1, a2, a3, a4, a5⟩, _⟩ : (_ ∧ _) ∧ True := ⟨hSx.b.cells, trivial⟩; go_simp; (try with_reducible rfl))
    (try simp only [Act.put, List.getElem_toArray, List.getElem_cons_succ, List.getElem_cons_zero, List.setIfInBounds_toArray, List.set_cons_succ, List.set_cons_zero])
    refine wpAnyH_take (i := 2) (v := ?_) rfl (by kernel_rfl) (by kernel_rfl) (by kernel_rfl) (fun _ _ _ h => h) (Or.inl ⟨by rfl, ?_⟩) hHeld ?_
    rotate_left
    · (intro wx hSx; obtain ⟨⟨a0, a1, a2, a3, a4, a5⟩, _⟩ : (_ ∧ _) ∧ True := ⟨hSx.b.cells, trivial⟩; go_simp; (try with_reducible rfl))
    (try simp only [Act.put, List.getElem_toArray, List.getElem_cons_succ, List.getElem_cons_zero, List.setIfInBounds_toArray, List.set_cons_succ, List.set_cons_zero])
    refine wpAnyH_take (i := 3) (v := ?_) rfl (by kernel_rfl) (by kernel_rfl) (by kernel_rfl) (fun _ _ _ h => h) (Or.inl ⟨by rfl, ?_⟩) hHeld ?_
    rotate_left
    · (intro wx hSx; obtain ⟨⟨a0, a1, a2, a3, a4, a5⟩, _⟩ : (_ ∧ _) ∧ True := ⟨hSx.b.cells, trivial⟩; go_simp; (try with_reducible rfl))
    (try simp only [Act.put, List.getElem_toArray, List.getElem_cons_succ, List.getElem_cons_zero, List.setIfInBounds_toArray, List.set_cons_succ, List.set_cons_zero])
    refine wpAnyH_take (i := 4) (v := undef) rfl (by kernel_rfl) (by kernel_rfl) (by kernel_rfl) (fun _ _ _ h => h) (Or.inr ⟨by rfl, rfl⟩) hHeld ?_
    (try simp only [Act.put, List.getElem_toArray, List.getElem_cons_succ, List.getElem_cons_zero, List.setIfInBounds_toArray, List.set_cons_succ, List.set_cons_zero])
    refine wpAnyH_take (i := 5) (v := undef) rfl (by kernel_rfl) (by kernel_rfl) (by kernel_rfl) (fun _ _ _ h => h) (Or.inr ⟨by rfl, rfl⟩) hHeld ?_
    (try simp only [Act.put, List.getElem_toArray, List.getElem_cons_succ, List.getElem_cons_zero, List.setIfInBounds_toArray, List.set_cons_succ, List.set_cons_zero])
    refine wpAnyH_take (i := 6) (v := undef) rfl (by kernel_rfl) (by kernel_rfl) (by kernel_rfl) (fun _ _ _ h => h) (Or.inr ⟨by rfl, rfl⟩) hHeld ?_
    (try simp only [Act.put, List.getElem_toArray, List.getElem_cons_succ, List.getElem_cons_zero, List.setIfInBounds_toArray, List.set_cons_succ, List.set_cons_zero])
    refine wpAnyH_take (i := 7) (v := undef) rfl (by kernel_rfl) (by kernel_rfl) (by kernel_rfl) (fun _ _ _ h => h) (Or.inr ⟨by rfl, rfl⟩) hHeld ?_
    (try simp only [Act.put, List.getElem_toArray, List.getElem_cons_succ, List.getElem_cons_zero, List.setIfInBounds_toArray, List.set_cons_succ, List.set_cons_zero])
    refine wpAnyH_take (i := 8) (v := undef) rfl (by kernel_rfl) (by kernel_rfl) (by kernel_rfl) (fun _ _ _ h => h) (Or.inr ⟨by rfl, rfl⟩) hHeld ?_
    (try simp only [Act.put, List.getElem_toArray, List.getElem_cons_succ, List.getElem_cons_zero, List.setIfInBounds_toArray, List.set_cons_succ, List.set_cons_zero])
    refine wpAnyH_take (i := 9) (v := undef) rfl (by kernel_rfl) (by kernel_rfl) (by kernel_rfl) (fun _ _ _ h => h) (Or.inr ⟨by rfl, rfl⟩) hHeld ?_
    (try simp only [Act.put, List.getElem_toArray, List.getElem_cons_succ, List.getElem_cons_zero, List.setIfInBounds_toArray, List.set_cons_succ, List.set_cons_zero])
    refine wpAnyH_take (i := 10) (v := undef) rfl (by kernel_rfl) (by kernel_rfl) (by kernel_rfl) (fun _ _ _ h => h) (Or.inr ⟨by rfl, rfl⟩) hHeld ?_
    (try simp only [Act.put, List.getElem_toArray, List.getElem_cons_succ, List.getElem_cons_zero, List.setIfInBounds_toArray, List.set_cons_succ, List.set_cons_zero])
    refine wpAnyH_take (i := 11) (v := undef) rfl (by kernel_rfl) (by kernel_rfl) (by kernel_rfl) (fun _ _ _ h => h) (Or.inr ⟨by rfl, rfl⟩) hHeld ?_
    (try simp only [Act.put, List.getElem_toArray, List.getElem_cons_succ, List.getElem_cons_zero, List.setIfInBounds_toArray, List.set_cons_succ, List.set_cons_zero])
    refine wpAnyH_take (i := 12) (v := undef) rfl (by kernel_rfl) (by kernel_rfl) (by kernel_rfl) (fun _ _ _ h => h) (Or.inr ⟨by rfl, rfl⟩) hHeld ?_
    (try simp only [Act.put, List.getElem_toArray, List.getElem_cons_succ, List.getElem_cons_zero, List.setIfInBounds_toArray, List.set_cons_succ, List.set_cons_zero])
    refine wpAnyH_take (i := 13) (v := undef) rfl (by kernel_rfl) (by kernel_rfl) (by kernel_rfl) (fun _ _ _ h => h) (Or.inr ⟨by rfl, rfl⟩) hHeld ?_
    (try simp only [Act.put, List.getElem_toArray, List.getElem_cons_succ, List.getElem_cons_zero, List.setIfInBounds_toArray, List.set_cons_succ, List.set_cons_zero])
    refine wpAnyH_take (i := 14) (v := ?_) rfl (by kernel_rfl) (by kernel_rfl) (by kernel_rfl) (fun _ _ _ h => h) (Or.inl ⟨by rfl, ?_⟩) hHeld ?_
    rotate_left
    · (intro wx hSx; obtain ⟨⟨a0, a1, a2, a3, a4, a5⟩, _⟩ : (_ ∧ _) ∧ True := ⟨hSx.b.cells, trivial⟩; go_simp; (try with_reducible rfl))
    (try simp only [Act.put, List.getElem_toArray, List.getElem_cons_succ, List.getElem_cons_zero, List.setIfInBounds_toArray, List.set_cons_succ, List.set_cons_zero])
    refine wpAnyH_done (by kernel_rfl) ?_ _
    clear hHeld
    generalize w9.drew = w10 at *
    obtain ⟨a0, a1, a2, a3, a4, a5⟩ := HH.out.i.1
    obtain ⟨b0, b1, b2, b3, b4, b5⟩ := HH.out.b.cells
    obtain ⟨p0, p1, p2, p3, p4, p5⟩ := HH.out.o.cells
    have pf := HH.out.o.free
    have bf := HH.out.b.free
    go_wp2
    refine bodyPost_ret (results_cell_tmp rfl _ _ (w.heap.size + 1) _ _ _ _ rfl HH.out.out.1 Try.underlying28 rfl (by kernel_rfl)) rfl ?_
    exact ⟨_, rfl, HH.out.out.2.1, HH.out.out.2.2⟩
  by_cases hq : b.next + (rdyB b : Int) = r.fin
  · have hXX := HX.out.symm.trans (if_pos ⟨hf, hq⟩)
    have tq : (b.next + (rdyB b : Int) == r.fin) = true := by simpa using hq
    have g0 : (r.fin == -1) = false := by simpa using hf
    have g1 : (r.fin != -1) = true := by simpa using hf
    clear hf
    clear hq
    subst hXX
    clear HX
    refine wp_region_held_drew (S := (FrX w r A cap gx ⟨r.st, b, r.fin, (o + (d.size : Int)), r.code⟩ (.slice A8 b.chs.length c8))) (by kernel_rfl) HH.out (fun hHeld => ?_)
    refine wpAnyH_take (i := 0) (v := ?_) rfl (by kernel_rfl) (by kernel_rfl) (by kernel_rfl) (fun _ _ _ h => h) (Or.inl ⟨by rfl, ?_⟩) hHeld ?_
    rotate_left
    · (intro wx hSx; obtain ⟨⟨a0, a1, a2, a3, a4, a5⟩, _⟩ : (_ ∧ _) ∧ True := ⟨hSx.b.cells, trivial⟩; go_simp; (try with_reducible rfl))
    (try simp only [Act.put, List.getElem_toArray, List.getElem_cons_zero, List.setIfInBounds_toArray, List.set_cons_succ, List.set_cons_zero])
    refine wpAnyH_take (i := 1) (v := ?_) rfl (by kernel_rfl) (by kernel_rfl) (by kernel_rfl) (fun _ _ _ h => h) (Or.inl ⟨by rfl, ?_⟩) hHeld ?_
    rotate_left
    · (intro wx hSx; obtain ⟨⟨a0, a1, a2, a3, a4, a5⟩, _⟩ : (_ ∧ _) ∧ True := ⟨hSx.b.cells, trivial⟩; go_simp; (try with_reducible rfl))
    (try simp only [Act.put, List.getElem_toArray, List.getElem_cons_succ, List.getElem_cons_zero, List.setIfInBounds_toArray, List.set_cons_succ, List.set_cons_zero])
    refine wpAnyH_take (i := 2) (v := ?_) rfl (by kernel_rfl) (by kernel_rfl) (by kernel_rfl) (fun _ _ _ h => h) (Or.inl ⟨by rfl, ?_⟩) hHeld ?_
    rotate_left
    · (intro wx hSx; obtain ⟨⟨a0, a1, a2, a3, a4, a5⟩, _⟩ : (_ ∧ _) ∧ True := ⟨hSx.b.cells, trivial⟩; go_simp; (try with_reducible rfl))
    (try simp only [Act.put, List.getElem_toArray, List.getElem_cons_succ, List.getElem_cons_zero, List.setIfInBounds_toArray, List.set_cons_succ, List.set_cons_zero])
    refine wpAnyH_take (i := 3) (v := ?_) rfl (by kernel_rfl) (by kernel_rfl) (by kernel_rfl) (fun _ _ _ h => h) (Or.inl ⟨by rfl, ?_⟩) hHeld ?_
    rotate_left
    · (intro wx hSx; obtain ⟨⟨a0, a1, a2, a3, a4, a5⟩, _⟩ : (_ ∧ _) ∧ True := ⟨hSx.b.cells, trivial⟩; go_simp; (try with_reducible rfl))
    (try simp only [Act.put, List.getElem_toArray, List.getElem_cons_succ, List.getElem_cons_zero, List.setIfInBounds_toArray, List.set_cons_succ, List.set_cons_zero])
    refine wpAnyH_take (i := 4) (v := ?_) rfl (by kernel_rfl) (by kernel_rfl) (by kernel_rfl) (fun _ _ _ h => h) (Or.inl ⟨by rfl, ?_⟩) hHeld ?_
    rotate_left
    · (intro wx hSx; obtain ⟨⟨a0, a1, a2, a3, a4, a5⟩, _⟩ : (_ ∧ _) ∧ True := ⟨hSx.b.cells, trivial⟩; go_simp; (try with_reducible rfl))
    (try simp only [Act.put, List.getElem_toArray, List.getElem_cons_succ, List.getElem_cons_zero, List.setIfInBounds_toArray, List.set_cons_succ, List.set_cons_zero])
    refine wpAnyH_take (i := 5) (v := ?_) rfl (by kernel_rfl) (by kernel_rfl) (by kernel_rfl) (fun _ _ _ h => h) (Or.inl ⟨by rfl, ?_⟩) hHeld ?_
    rotate_left
    · (intro wx hSx; obtain ⟨⟨a0, a1, a2, a3, a4, a5⟩, _⟩ : (_ ∧ _) ∧ True := ⟨hSx.b.cells, trivial⟩; go_simp; (try with_reducible rfl))
    (try simp only [Act.put, List.getElem_toArray, List.getElem_cons_succ, List.getElem_cons_zero, List.setIfInBounds_toArray, List.set_cons_succ, List.set_cons_zero])
    refine wpAnyH_take (i := 6) (v := ?_) rfl (by kernel_rfl) (by kernel_rfl) (by kernel_rfl) (fun _ _ _ h => h) (Or.inl ⟨by rfl, ?_⟩) hHeld ?_
    rotate_left
    · (intro wx hSx; obtain ⟨⟨a0, a1, a2, a3, a4, a5⟩, _⟩ : (_ ∧ _) ∧ True := ⟨hSx.b.cells, trivial⟩; go_simp; (try with_reducible rfl))
    (try simp only [Act.put, List.getElem_toArray, List.getElem_cons_succ, List.getElem_cons_zero, List.setIfInBounds_toArray, List.set_cons_succ, List.set_cons_zero])
    refine wpAnyH_take (i := 7) (v := ?_) rfl (by kernel_rfl) (by kernel_rfl) (by kernel_rfl) (fun _ _ _ h => h) (Or.inl ⟨by rfl, ?_⟩) hHeld ?_
    rotate_left
    · (intro wx hSx; obtain ⟨⟨a0, a1, a2, a3, a4, a5⟩, _⟩ : (_ ∧ _) ∧ True := ⟨hSx.b.cells, trivial⟩; go_simp; (try with_reducible rfl))
    (try simp only [Act.put, List.getElem_toArray, List.getElem_cons_succ, List.getElem_cons_zero, List.setIfInBounds_toArray, List.set_cons_succ, List.set_cons_zero])
    refine wpAnyH_take (i := 8) (v := ?_) rfl (by kernel_rfl) (by kernel_rfl) (by kernel_rfl) (fun _ _ _ h => h) (Or.inl ⟨by rfl, ?_⟩) hHeld ?_
    rotate_left
    · (intro wx hSx; obtain ⟨⟨a0, a1, a2, a3, a4, a5⟩, _⟩ : (_ ∧ _) ∧ True := ⟨hSx.b.cells, trivial⟩; go_simp; (try with_reducible rfl))
    (try simp only [Act.put, List.getElem_toArray, List.getElem_cons_succ, List.getElem_cons_zero, List.setIfInBounds_toArray, List.set_cons_succ, List.set_cons_zero])
    refine wpAnyH_take (i := 11) (v := ?_) rfl (by kernel_rfl) (by kernel_rfl) (by kernel_rfl) (fun _ _ _ h => h) (Or.inl ⟨by rfl, ?_⟩) hHeld ?_
    rotate_left
    · (intro wx hSx; obtain ⟨⟨a0, a1, a2, a3, a4, a5⟩, _⟩ : (_ ∧ _) ∧ True := ⟨hSx.b.cells, trivial⟩; go_simp; (try with_reducible rfl))
    (try simp only [Act.put, List.getElem_toArray, List.getElem_cons_succ, List.getElem_cons_zero, List.setIfInBounds_toArray, List.set_cons_succ, List.set_cons_zero])
    refine wpAnyH_take (i := 12) (v := ?_) rfl (by kernel_rfl) (by kernel_rfl) (by kernel_rfl) (fun _ _ _ h => h) (Or.inl ⟨by rfl, ?_⟩) hHeld ?_
    rotate_left
    · (intro wx hSx; obtain ⟨⟨a0, a1, a2, a3, a4, a5⟩, _⟩ : (_ ∧ _) ∧ True := ⟨hSx.b.cells, trivial⟩; go_simp; (try with_reducible rfl))
    (try simp only [Act.put, List.getElem_toArray, List.getElem_cons_succ, List.getElem_cons_zero, List.setIfInBounds_toArray, List.set_cons_succ, List.set_cons_zero])
    refine wpAnyH_ready (rs := [9]) (by kernel_rfl) (by simp) ?_
    refine AllReadyH.cons rfl (fun K hK => ?_) AllReadyH.nil
    rw [if_pos (by rfl)]
    go_simp
    refine (HRD.out A8 c8 _ (HH.out.own.chs)).mono ?_
    rintro e w1 ⟨rfl, hb1⟩
    have HH := Lib.hid (HH.out.next hb1)
    (try simp only [])
    refine hK.out _ _ HH.out (fun hHeld => ?_)
    clear hb1
    clear hK K
    (try simp only [Act.put, List.getElem_toArray, List.getElem_cons_succ, List.getElem_cons_zero, List.setIfInBounds_toArray, List.set_cons_succ, List.set_cons_zero])
    refine wpAnyH_take (i := 10) (v := ?_) rfl (by kernel_rfl) (by kernel_rfl) (by kernel_rfl) (fun _ _ _ h => h) (Or.inl ⟨by rfl, ?_⟩) hHeld ?_
    rotate_left
    · (intro wx hSx; obtain ⟨⟨a0, a1, a2, a3, a4, a5⟩, _⟩ : (_ ∧ _) ∧ True := ⟨hSx.b.cells, trivial⟩; go_simp; (try with_reducible rfl))
    (try simp only [Act.put, List.getElem_toArray, List.getElem_cons_succ, List.getElem_cons_zero, List.setIfInBounds_toArray, List.set_cons_succ, List.set_cons_zero])
    refine wpAnyH_take (i := 13) (v := ?_) rfl (by kernel_rfl) (by kernel_rfl) (by kernel_rfl) (fun _ _ _ h => h) (Or.inl ⟨by rfl, ?_⟩) hHeld ?_
    rotate_left
    · (intro wx hSx; obtain ⟨⟨a0, a1, a2, a3, a4, a5⟩, _⟩ : (_ ∧ _) ∧ True := ⟨hSx.b.cells, trivial⟩; go_simp; (try with_reducible rfl))
    (try simp only [Act.put, List.getElem_toArray, List.getElem_cons_succ, List.getElem_cons_zero, List.setIfInBounds_toArray, List.set_cons_succ, List.set_cons_zero])
    refine wpAnyH_take (i := 14) (v := ?_) rfl (by kernel_rfl) (by kernel_rfl) (by kernel_rfl) (fun _ _ _ h => h) (Or.inl ⟨by rfl, ?_⟩) hHeld ?_
    rotate_left
    · (intro wx hSx; obtain ⟨⟨a0, a1, a2, a3, a4, a5⟩, _⟩ : (_ ∧ _) ∧ True := ⟨hSx.b.cells, trivial⟩; go_simp; (try with_reducible rfl))
    (try simp only [Act.put, List.getElem_toArray, List.getElem_cons_succ, List.getElem_cons_zero, List.setIfInBounds_toArray, List.set_cons_succ, List.set_cons_zero])
    refine wpAnyH_done (by kernel_rfl) ?_ _
    clear hHeld
    obtain ⟨b0, b1, b2, b3, b4, b5⟩ := HH.out.b.cells
    have bf := HH.out.b.free
    go_upto_region 15 with fail
    have HH := Lib.hid (HH.out.put0 2)
    clear b0 b1 b2 b3 b4 b5 bf
    obtain ⟨a0, a1, a2, a3, a4, a5⟩ := HH.out.i.1
    obtain ⟨b0, b1, b2, b3, b4, b5⟩ := HH.out.b.cells
    obtain ⟨p0, p1, p2, p3, p4, p5⟩ := HH.out.o.cells
    have pf := HH.out.o.free
    have bf := HH.out.b.free
    go_wp2
    refine bodyPost_ret (results_cell_tmp rfl _ _ (w.heap.size + 1) _ _ _ _ rfl HH.out.out.1 Try.underlying28 rfl (by kernel_rfl)) rfl ?_
    exact ⟨_, rfl, HH.out.out.2.1, HH.out.out.2.2⟩
  · have hXX := HX.out.symm.trans (if_neg (fun h => hq h.2))
    have tq : (b.next + (rdyB b : Int) == r.fin) = false := by simpa using hq
    have g0 : (r.fin == -1) = false := by simpa using hf
    have g1 : (r.fin != -1) = true := by simpa using hf
    clear hf
    clear hq
    subst hXX
    clear HX
    refine wp_region_held_drew (S := (FrX w r A cap gx ⟨r.st, b, r.fin, (o + (d.size : Int)), r.code⟩ (.slice A8 b.chs.length c8))) (by kernel_rfl) HH.out (fun hHeld => ?_)
    refine wpAnyH_take (i := 0) (v := ?_) rfl (by kernel_rfl) (by kernel_rfl) (by kernel_rfl) (fun _ _ _ h => h) (Or.inl ⟨by rfl, ?_⟩) hHeld ?_
    rotate_left
    · (intro wx hSx; obtain ⟨⟨a0, a1, a2, a3, a4, a5⟩, _⟩ : (_ ∧ _) ∧ True := ⟨hSx.b.cells, trivial⟩; go_simp; (try with_reducible rfl))
    (try simp only [Act.put, List.getElem_toArray, List.getElem_cons_zero, List.setIfInBounds_toArray, List.set_cons_succ, List.set_cons_zero])
    refine wpAnyH_take (i := 1) (v := ?_) rfl (by kernel_rfl) (by kernel_rfl) (by kernel_rfl) (fun _ _ _ h => h) (Or.inl ⟨by rfl, ?_⟩) hHeld ?_
    rotate_left
    · (intro wx hSx; obtain ⟨⟨a0, a1, a2, a3, a4, a5⟩, _⟩ : (_ ∧ _) ∧ True := ⟨hSx.b.cells, trivial⟩; go_simp; (try with_reducible rfl))
    (try simp only [Act.put, List.getElem_toArray, List.getElem_cons_succ, List.getElem_cons_zero, List.setIfInBounds_toArray, List.set_cons_succ, List.set_cons_zero])
    refine wpAnyH_take (i := 2) (v := ?_) rfl (by kernel_rfl) (by kernel_rfl) (by kernel_rfl) (fun _ _ _ h => h) (Or.inl ⟨by rfl, ?_⟩) hHeld ?_
    rotate_left
    · (intro wx hSx; obtain ⟨⟨a0, a1, a2, a3, a4, a5⟩, _⟩ : (_ ∧ _) ∧ True := ⟨hSx.b.cells, trivial⟩; go_simp; (try with_reducible rfl))
    (try simp only [Act.put, List.getElem_toArray, List.getElem_cons_succ, List.getElem_cons_zero, List.setIfInBounds_toArray, List.set_cons_succ, List.set_cons_zero])
    refine wpAnyH_take (i := 3) (v := ?_) rfl (by kernel_rfl) (by kernel_rfl) (by kernel_rfl) (fun _ _ _ h => h) (Or.inl ⟨by rfl, ?_⟩) hHeld ?_
    rotate_left
    · (intro wx hSx; obtain ⟨⟨a0, a1, a2, a3, a4, a5⟩, _⟩ : (_ ∧ _) ∧ True := ⟨hSx.b.cells, trivial⟩; go_simp; (try with_reducible rfl))
    (try simp only [Act.put, List.getElem_toArray, List.getElem_cons_succ, List.getElem_cons_zero, List.setIfInBounds_toArray, List.set_cons_succ, List.set_cons_zero])
    refine wpAnyH_take (i := 4) (v := ?_) rfl (by kernel_rfl) (by kernel_rfl) (by kernel_rfl) (fun _ _ _ h => h) (Or.inl ⟨by rfl, ?_⟩) hHeld ?_
    rotate_left
    · (intro wx hSx; obtain ⟨⟨a0, a1, a2, a3, a4, a5⟩, _⟩ : (_ ∧ _) ∧ True := ⟨hSx.b.cells, trivial⟩; go_simp; (try with_reducible rfl))
    (try simp only [Act.put, List.getElem_toArray, List.getElem_cons_succ, List.getElem_cons_zero, List.setIfInBounds_toArray, List.set_cons_succ, List.set_cons_zero])
    refine wpAnyH_take (i := 5) (v := ?_) rfl (by kernel_rfl) (by kernel_rfl) (by kernel_rfl) (fun _ _ _ h => h) (Or.inl ⟨by rfl, ?_⟩) hHeld ?_
    rotate_left
    · (intro wx hSx; obtain ⟨⟨a0, a1, a2, a3, a4, a5⟩, _⟩ : (_ ∧ _) ∧ True := ⟨hSx.b.cells, trivial⟩; go_simp; (try with_reducible rfl))
    (try simp only [Act.put, List.getElem_toArray, List.getElem_cons_succ, List.getElem_cons_zero, List.setIfInBounds_toArray, List.set_cons_succ, List.set_cons_zero])
    refine wpAnyH_take (i := 6) (v := ?_) rfl (by kernel_rfl) (by kernel_rfl) (by kernel_rfl) (fun _ _ _ h => h) (Or.inl ⟨by rfl, ?_⟩) hHeld ?_
    rotate_left
    · (intro wx hSx; obtain ⟨⟨a0, a1, a2, a3, a4, a5⟩, _⟩ : (_ ∧ _) ∧ True := ⟨hSx.b.cells, trivial⟩; go_simp; (try with_reducible rfl))
    (try simp only [Act.put, List.getElem_toArray, List.getElem_cons_succ, List.getElem_cons_zero, List.setIfInBounds_toArray, List.set_cons_succ, List.set_cons_zero])
    refine wpAnyH_take (i := 7) (v := ?_) rfl (by kernel_rfl) (by kernel_rfl) (by kernel_rfl) (fun _ _ _ h => h) (Or.inl ⟨by rfl, ?_⟩) hHeld ?_
    rotate_left
    · (intro wx hSx; obtain ⟨⟨a0, a1, a2, a3, a4, a5⟩, _⟩ : (_ ∧ _) ∧ True := ⟨hSx.b.cells, trivial⟩; go_simp; (try with_reducible rfl))
    (try simp only [Act.put, List.getElem_toArray, List.getElem_cons_succ, List.getElem_cons_zero, List.setIfInBounds_toArray, List.set_cons_succ, List.set_cons_zero])
    refine wpAnyH_take (i := 8) (v := ?_) rfl (by kernel_rfl) (by kernel_rfl) (by kernel_rfl) (fun _ _ _ h => h) (Or.inl ⟨by rfl, ?_⟩) hHeld ?_
    rotate_left
    · (intro wx hSx; obtain ⟨⟨a0, a1, a2, a3, a4, a5⟩, _⟩ : (_ ∧ _) ∧ True := ⟨hSx.b.cells, trivial⟩; go_simp; (try with_reducible rfl))
    (try simp only [Act.put, List.getElem_toArray, List.getElem_cons_succ, List.getElem_cons_zero, List.setIfInBounds_toArray, List.set_cons_succ, List.set_cons_zero])
    refine wpAnyH_take (i := 11) (v := ?_) rfl (by kernel_rfl) (by kernel_rfl) (by kernel_rfl) (fun _ _ _ h => h) (Or.inl ⟨by rfl, ?_⟩) hHeld ?_
    rotate_left
    · (intro wx hSx; obtain ⟨⟨a0, a1, a2, a3, a4, a5⟩, _⟩ : (_ ∧ _) ∧ True := ⟨hSx.b.cells, trivial⟩; go_simp; (try with_reducible rfl))
    (try simp only [Act.put, List.getElem_toArray, List.getElem_cons_succ, List.getElem_cons_zero, List.setIfInBounds_toArray, List.set_cons_succ, List.set_cons_zero])
    refine wpAnyH_take (i := 12) (v := ?_) rfl (by kernel_rfl) (by kernel_rfl) (by kernel_rfl) (fun _ _ _ h => h) (Or.inl ⟨by rfl, ?_⟩) hHeld ?_
    rotate_left
    · (intro wx hSx; obtain ⟨⟨a0, a1, a2, a3, a4, a5⟩, _⟩ : (_ ∧ _) ∧ True := ⟨hSx.b.cells, trivial⟩; go_simp; (try with_reducible rfl))
    (try simp only [Act.put, List.getElem_toArray, List.getElem_cons_succ, List.getElem_cons_zero, List.setIfInBounds_toArray, List.set_cons_succ, List.set_cons_zero])
    refine wpAnyH_ready (rs := [9]) (by kernel_rfl) (by simp) ?_
    refine AllReadyH.cons rfl (fun K hK => ?_) AllReadyH.nil
    rw [if_pos (by rfl)]
    go_simp
    refine (HRD.out A8 c8 _ (HH.out.own.chs)).mono ?_
    rintro e w1 ⟨rfl, hb1⟩
    have HH := Lib.hid (HH.out.next hb1)
    (try simp only [])
    refine hK.out _ _ HH.out (fun hHeld => ?_)
    clear hb1
    clear hK K
    (try simp only [Act.put, List.getElem_toArray, List.getElem_cons_succ, List.getElem_cons_zero, List.setIfInBounds_toArray, List.set_cons_succ, List.set_cons_zero])
    refine wpAnyH_take (i := 10) (v := ?_) rfl (by kernel_rfl) (by kernel_rfl) (by kernel_rfl) (fun _ _ _ h => h) (Or.inl ⟨by rfl, ?_⟩) hHeld ?_
    rotate_left
    · (intro wx hSx; obtain ⟨⟨a0, a1, a2, a3, a4, a5⟩, _⟩ : (_ ∧ _) ∧ True := ⟨hSx.b.cells, trivial⟩; go_simp; (try with_reducible rfl))
    (try simp only [Act.put, List.getElem_toArray, List.getElem_cons_succ, List.getElem_cons_zero, List.setIfInBounds_toArray, List.set_cons_succ, List.set_cons_zero])
    refine wpAnyH_take (i := 13) (v := ?_) rfl (by kernel_rfl) (by kernel_rfl) (by kernel_rfl) (fun _ _ _ h => h) (Or.inl ⟨by rfl, ?_⟩) hHeld ?_
    rotate_left
    · (intro wx hSx; obtain ⟨⟨a0, a1, a2, a3, a4, a5⟩, _⟩ : (_ ∧ _) ∧ True := ⟨hSx.b.cells, trivial⟩; go_simp; (try with_reducible rfl))
    (try simp only [Act.put, List.getElem_toArray, List.getElem_cons_succ, List.getElem_cons_zero, List.setIfInBounds_toArray, List.set_cons_succ, List.set_cons_zero])
    refine wpAnyH_take (i := 14) (v := ?_) rfl (by kernel_rfl) (by kernel_rfl) (by kernel_rfl) (fun _ _ _ h => h) (Or.inl ⟨by rfl, ?_⟩) hHeld ?_
    rotate_left
    · (intro wx hSx; obtain ⟨⟨a0, a1, a2, a3, a4, a5⟩, _⟩ : (_ ∧ _) ∧ True := ⟨hSx.b.cells, trivial⟩; go_simp; (try with_reducible rfl))
    (try simp only [Act.put, List.getElem_toArray, List.getElem_cons_succ, List.getElem_cons_zero, List.setIfInBounds_toArray, List.set_cons_succ, List.set_cons_zero])
    refine wpAnyH_done (by kernel_rfl) ?_ _
    clear hHeld
    obtain ⟨a0, a1, a2, a3, a4, a5⟩ := HH.out.i.1
    obtain ⟨b0, b1, b2, b3, b4, b5⟩ := HH.out.b.cells
    obtain ⟨p0, p1, p2, p3, p4, p5⟩ := HH.out.o.cells
    have pf := HH.out.o.free
    have bf := HH.out.b.free
    go_wp2
    refine bodyPost_ret (results_cell_tmp rfl _ _ (w.heap.size + 1) _ _ _ _ rfl HH.out.out.1 Try.underlying28 rfl (by kernel_rfl)) rfl ?_
    exact ⟨_, rfl, HH.out.out.2.1, HH.out.out.2.2⟩
set_option maxRecDepth 100000 in
set_option maxHeartbeats 8000000 in
/-- spec.ReceiveData, where data is taken. -/
theorem sdat_nk (r : Rc) (o : Int) (d : ByteArray) (A : Option Addr) (cap B : Nat) (w : World) (hB : B ≤ w.heap.size) (hr : Chs w B A r.buf.chs) (hn : r.buf.chs.length ≤ 10000000) (hi : inB r.buf.chs) (hx : inRc r) (ho : -9223372036854775808 ≤ o ∧ o ≤ 9223372036854775807) (hd : sumC r.buf.chs + d.size ≤ 8000000) (hok : okRc r) (h0 : ¬ o < 0) (h1 : ¬ 4611686018427387903 - (d.size : Int) < o) (hb : ¬ badRc r (o + d.size) false) (hs : ¬ 1 < r.st) (hE : ¬ r.hi < o + (d.size : Int)) :
    Calls Try.prog 34 #[rcV r (.slice A r.buf.chs.length cap), .int .i64 o, .string d, .bool false] w fun e w' => ∃ v, e = .returned (.tuple #[rcV (rcvRc r o d false).1 v, .int .i64 (rcvRc r o d false).2]) ∧ OwnX w' w.heap.size v (rcvRc r o d false).1.buf.chs ∧ Below w.heap.size w w' := by
  have s1 : ∀ o1, (w.alloc o1).heap.size = w.heap.size + 1 := fun _ => by simp
  have s2 : ∀ o1 o2, ((w.alloc o1).alloc o2).heap.size = w.heap.size + 2 := fun _ _ => by simp
  have HI1 := Lib.hid ((InRc.start w r A cap 28 (hr.up hB)).alloc (.cells (rcC 0 0 (.slice none 0 0) 0 0 0) 28))
  have X2 := BoxR.new (w.alloc (.cells (rcC r.st r.buf.next (.slice A r.buf.chs.length cap) r.fin r.hi r.code) 28)) 0 0 (.slice none 0 0) 0 0 0
  rw [s1] at X2
  have HS2 := Lib.hid (s2 (.cells (rcC r.st r.buf.next (.slice A r.buf.chs.length cap) r.fin r.hi r.code) 28) (.cells (rcC 0 0 (.slice none 0 0) 0 0 0) 28))
  have HO1 := Lib.hid X2
  have HCP : Hid (∀ W, InRc w w.heap.size r A cap W → Calls Try.prog 46 #[rcV r (.slice A r.buf.chs.length cap)] W fun e w' => ∃ v, e = .returned (rcV r v) ∧ OwnC w' W.heap.size v r.buf.chs ∧ Below W.heap.size W w') := Lib.hid fun W h => scopyrc r A cap w.heap.size W (Nat.le_of_lt h.2.2.1) h.2.1 (by omega)
  have HIR : Hid (∀ W, InRc w w.heap.size r A cap W → Calls Try.prog 19 #[rcV r (.slice A r.buf.chs.length cap)] W fun e w' => e = .returned (.bool (decide (okRc r))) ∧ Below W.heap.size W w') := Lib.hid fun W h => sisrc r A cap w.heap.size W (Nat.le_of_lt h.2.2.1) h.2.1 (by omega) hi hx
  clear X2 s1 s2
  have hsz : (0 : Int) ≤ d.size ∧ (d.size : Int) ≤ 8000000 := by have := sumC_nonneg r.buf.chs; omega
  have hw : IntKind.i64.wrap (4611686018427387903 - (d.size : Int)) = 4611686018427387903 - (d.size : Int) := by rw [IntKind.wrap_i64]; clear ho hx; omega
  rw [decide_eq_true hok] at HIR
  have d0 : decide (o < 0) = false := decide_eq_false h0
  have d1 : decide (4611686018427387903 - (d.size : Int) < o) = false := decide_eq_false h1
  have hwe : wrap64 (o + (d.size : Int)) = o + (d.size : Int) := by clear ho hx hw; unfold wrap64; omega
  have HFN : Hid (∀ W, InRc w w.heap.size r A cap W → Calls Try.prog 48 #[rcV r (.slice A r.buf.chs.length cap), .int .i64 (o + (d.size : Int)), .bool false] W fun e w' => e = .returned (.int .i64 (if badRc r (o + d.size) false then 6 else 0)) ∧ Below W.heap.size W w') := Lib.hid fun W h => sfin r (o + d.size) false A cap w.heap.size W (Nat.le_of_lt h.2.2.1) h.2.1
  rw [if_neg hb] at HFN
  have ds : decide (1 < r.st) = false := decide_eq_false hs
  have hv : rcvRc r o d false = (fillRc ⟨r.st, insB r.buf o d, r.fin, r.hi, r.code⟩, 0) := (if_neg (fun h => h ⟨hok, by omega, by omega⟩)).trans ((if_neg hb).trans ((if_neg hs).trans (by unfold datRc; rw [show max r.hi (o + (d.size : Int)) = r.hi by omega]; rfl)))
  rw [hv]
  have HNX := Lib.hid (insB_next r.buf o d)
  have HBO := Lib.hid (insB_ok r.buf o d hok.1.1)
  have HBI := Lib.hid (insB_in (o := o) hok.1.1 hd)
  have HBL := Lib.hid (insB_len2 r.buf o d)
  have HBS := Lib.hid (insB_sum r.buf o d hok.1.1)
  have HIN : Hid (∀ W, InRc w w.heap.size r A cap W → Calls Try.prog 63 #[bfV r.buf.next (.slice A r.buf.chs.length cap), .int .i64 o, .string d] W fun e w' => ∃ v, e = .returned (bfV (insB r.buf o d).next v) ∧ OwnC w' W.heap.size v (insB r.buf o d).chs ∧ Below W.heap.size W w') := Lib.hid fun W h => by
    rw [HNX.out]
    exact sins r.buf o d A cap w.heap.size W (Nat.le_of_lt h.2.2.1) h.2.1 hn hi hx.2.1 ho hd
  generalize insB r.buf o d = b at *
  have hbn := HBO.out.2
  have hwb : IntKind.i64.wrap (b.next + (rdyB b : Int)) = b.next + (rdyB b : Int) := by
    have h9 : b.next + (rdyB b : Int) ≤ 9223372036854775807 := by
      by_cases hz : rdyB b = 0
      · rw [hz]; omega
      · obtain ⟨_, c, l, hl, hcn, hcs⟩ := rdyB_pos hz
        have h8 := sumC_mem b.chs c (by rw [hl]; exact List.mem_cons_self ..)
        have h7 := HBS.out
        omega
    rw [IntKind.wrap_i64]
    clear ho hx hw hwe
    omega
  have HRD : Hid (∀ (Y : Option Addr) (cy : Nat) W, Chs W W.heap.size Y b.chs → Calls Try.prog 52 #[bfV b.next (.slice Y b.chs.length cy)] W fun e w' => e = .returned (.int .i64 (rdyB b : Nat)) ∧ Below W.heap.size W w') := Lib.hid fun Y cy W h => sready b Y cy W.heap.size W (Nat.le_refl _) h (by have := HBL.out; omega) HBI.out (by omega)
  obtain ⟨X, hX⟩ : ∃ X, fillRc ⟨r.st, b, r.fin, r.hi, r.code⟩ = X := ⟨_, rfl⟩
  rw [hX]
  have HX := Lib.hid hX
  have d9 : decide (r.hi < o + (d.size : Int)) = false := decide_eq_false hE
  have m9 : max r.hi (o + (d.size : Int)) = r.hi := by omega
  have hE2 := hE
  clear hX hv hok h0 h1 hb hs hE hbn hsz hr hi hx hn ho hd
  go_enter Try.func34, Try.ntmps34
  obtain ⟨a0, a1, a2, a3, a4, a5⟩ := HI1.out.1
  go_wp2_with fail
  refine (HCP.out _ HI1.out).mono ?_
  rintro e w3 ⟨v, rfl, ho, hb⟩
  have HH := Lib.hid (FrX.start HI1.out HO1.out HS2.out hb ho.x)
  obtain ⟨A3, c3, rfl, _, _⟩ := ho.frs
  clear ho hb a0 a1 a2 a3 a4 a5
  go_upto_region 2 with fail
  generalize w3.alloc (.cells (rcC r.st r.buf.next (.slice A3 r.buf.chs.length c3) r.fin r.hi r.code) 28) = w4 at *
  generalize w3.heap.size = gx at *
  obtain ⟨a0, a1, a2, a3, a4, a5⟩ := HH.out.i.1
  go_wp2_with fail
  refine (HIR.out _ HH.out.i).mono ?_
  rintro e w1 ⟨rfl, hb1⟩
  have HH := Lib.hid (HH.out.next hb1)
  clear hb1 a0 a1 a2 a3 a4 a5
  obtain ⟨a0, a1, a2, a3, a4, a5⟩ := HH.out.i.1
  go_wp2_with fail
  refine (HFN.out _ HH.out.i).mono ?_
  rintro e w6 ⟨rfl, hb6⟩
  have HH := Lib.hid (HH.out.next hb6)
  clear hb6 a0 a1 a2 a3 a4 a5
  obtain ⟨a0, a1, a2, a3, a4, a5⟩ := HH.out.i.1
  obtain ⟨b0, b1, b2, b3, b4, b5⟩ := HH.out.b.cells
  obtain ⟨p0, p1, p2, p3, p4, p5⟩ := HH.out.o.cells
  have pf := HH.out.o.free
  have bf := HH.out.b.free
  go_upto_region 12 with fail
  have HH := Lib.hid (HH.out.put4 r.hi)
  clear a0 a1 a2 a3 a4 a5 b0 b1 b2 b3 b4 b5 p0 p1 p2 p3 p4 p5 pf bf
  generalize w6.setCell ⟨gx, 4, none⟩ (.int .i64 r.hi) = w7 at *
  obtain ⟨a0, a1, a2, a3, a4, a5⟩ := HH.out.i.1
  go_wp2_with fail
  refine (HIN.out _ HH.out.i).mono ?_
  rintro e w8 ⟨v8, rfl, ho8, hb8⟩
  obtain ⟨A8, c8, rfl, _, _⟩ := ho8.frs
  have HX8 := Lib.hid (HH.out.next hb8)
  have HH := Lib.hid (HH.out.putB hb8 b (.slice A8 b.chs.length c8) ho8.x)
  clear ho8 hb8 a0 a1 a2 a3 a4 a5
  obtain ⟨b0, b1, b2, b3, b4, b5⟩ := HX8.out.b.cells
  have bf := HX8.out.b.free
  go_upto_region 13 with fail
  clear b0 b1 b2 b3 b4 b5 bf HX8
  generalize (w8.setCell ⟨gx, 1, none⟩ (.int .i64 b.next)).setCell ⟨gx, 2, none⟩ (.slice A8 b.chs.length c8) = w9 at *
  have HH := Lib.hid HH.out.drew
  by_cases hf : r.fin = -1
  · have hXX := HX.out.symm.trans (if_neg (fun h => absurd hf h.1))
    have g0 : (r.fin == -1) = true := by simpa using hf
    have g1 : (r.fin != -1) = false := by simpa using hf
    clear hf
    subst hXX
    clear HX
    refine wp_region_held_drew (S := (FrX w r A cap gx ⟨r.st, b, r.fin, r.hi, r.code⟩ (.slice A8 b.chs.length c8))) (by kernel_rfl) HH.out (fun hHeld => ?_)
    refine wpAnyH_take (i := 0) (v := ?_) rfl (by kernel_rfl) (by kernel_rfl) (by kernel_rfl) (fun _ _ _ h => h) (Or.inl ⟨by rfl, ?_⟩) hHeld ?_
    rotate_left
    · (intro wx hSx; obtain ⟨⟨a0, a1, a2, a3, a4, a5⟩, _⟩ : (_ ∧ _) ∧ True := ⟨hSx.b.cells, trivial⟩; go_simp; (try with_reducible rfl))
    (try simp only [Act.put, List.getElem_toArray, List.getElem_cons_zero, List.setIfInBounds_toArray, List.set_cons_succ, List.set_cons_zero])
    refine wpAnyH_take (i := 1) (v := ?_) rfl (by kernel_rfl) (by kernel_rfl) (by kernel_rfl) (fun _ _ _ h => h) (Or.inl ⟨by rfl, ?_⟩) hHeld ?_
    rotate_left
    · (intro wx hSx; obtain ⟨⟨a0, a1, a2, a3, a4, a5⟩, _⟩ : (_ ∧ _) ∧ True := ⟨hSx.b.cells, trivial⟩; go_simp; (try with_reducible rfl))
    (try simp only [Act.put, List.getElem_toArray, List.getElem_cons_succ, List.getElem_cons_zero, List.setIfInBounds_toArray, List.set_cons_succ, List.set_cons_zero])
    refine wpAnyH_take (i := 2) (v := ?_) rfl (by kernel_rfl) (by kernel_rfl) (by kernel_rfl) (fun _ _ _ h => h) (Or.inl ⟨by rfl, ?_⟩) hHeld ?_
    rotate_left
    · (intro wx hSx; obtain ⟨⟨a0, a1, a2, a3, a4, a5⟩, _⟩ : (_ ∧ _) ∧ True := ⟨hSx.b.cells, trivial⟩; go_simp; (try with_reducible rfl))
    (try simp only [Act.put, List.getElem_toArray, List.getElem_cons_succ, List.getElem_cons_zero, List.setIfInBounds_toArray, List.set_cons_succ, List.set_cons_zero])
    refine wpAnyH_take (i := 3) (v := ?_) rfl (by kernel_rfl) (by kernel_rfl) (by kernel_rfl) (fun _ _ _ h => h) (Or.inl ⟨by rfl, ?_⟩) hHeld ?_
    rotate_left
    · (intro wx hSx; obtain ⟨⟨a0, a1, a2, a3, a4, a5⟩, _⟩ : (_ ∧ _) ∧ True := ⟨hSx.b.cells, trivial⟩; go_simp; (try with_reducible rfl))
    (try simp only [Act.put, List.getElem_toArray, List.getElem_cons_succ, List.getElem_cons_zero, List.setIfInBounds_toArray, List.set_cons_succ, List.set_cons_zero])
    refine wpAnyH_take (i := 4) (v := undef) rfl (by kernel_rfl) (by kernel_rfl) (by kernel_rfl) (fun _ _ _ h => h) (Or.inr ⟨by rfl, rfl⟩) hHeld ?_
    (try simp only [Act.put, List.getElem_toArray, List.getElem_cons_succ, List.getElem_cons_zero, List.setIfInBounds_toArray, List.set_cons_succ, List.set_cons_zero])
    refine wpAnyH_take (i := 5) (v := undef) rfl (by kernel_rfl) (by kernel_rfl) (by kernel_rfl) (fun _ _ _ h => h) (Or.inr ⟨by rfl, rfl⟩) hHeld ?_
    (try simp only [Act.put, List.getElem_toArray, List.getElem_cons_succ, List.getElem_cons_zero, List.setIfInBounds_toArray, List.set_cons_succ, List.set_cons_zero])
    refine wpAnyH_take (i := 6) (v := undef) rfl (by kernel_rfl) (by kernel_rfl) (by kernel_rfl) (fun _ _ _ h => h) (Or.inr ⟨by rfl, rfl⟩) hHeld ?_
    (try simp only [Act.put, List.getElem_toArray, List.getElem_cons_succ, List.getElem_cons_zero, List.setIfInBounds_toArray, List.set_cons_succ, List.set_cons_zero])
    refine wpAnyH_take (i := 7) (v := undef) rfl (by kernel_rfl) (by kernel_rfl) (by kernel_rfl) (fun _ _ _ h => h) (Or.inr ⟨by rfl, rfl⟩) hHeld ?_
    (try simp only [Act.put, List.getElem_toArray, List.getElem_cons_succ, List.getElem_cons_zero, List.setIfInBounds_toArray, List.set_cons_succ, List.set_cons_zero])
    refine wpAnyH_take (i := 8) (v := undef) rfl (by kernel_rfl) (by kernel_rfl) (by kernel_rfl) (fun _ _ _ h => h) (Or.inr ⟨by rfl, rfl⟩) hHeld ?_
    (try simp only [Act.put, List.getElem_toArray, List.getElem_cons_succ, List.getElem_cons_zero, List.setIfInBounds_toArray, List.set_cons_succ, List.set_cons_zero])
    refine wpAnyH_take (i := 9) (v := undef) rfl (by kernel_rfl) (by kernel_rfl) (by kernel_rfl) (fun _ _ _ h => h) (Or.inr ⟨by rfl, rfl⟩) hHeld ?_
    (try simp only [Act.put, List.getElem_toArray, List.getElem_cons_succ, List.getElem_cons_zero, List.setIfInBounds_toArray, List.set_cons_succ, List.set_cons_zero])
    refine wpAnyH_take (i := 10) (v := undef) rfl (by kernel_rfl) (by kernel_rfl) (by kernel_rfl) (fun _ _ _ h => h) (Or.inr ⟨by rfl, rfl⟩) hHeld ?_
    (try simp only [Act.put, List.getElem_toArray, List.getElem_cons_succ, List.getElem_cons_zero, List.setIfInBounds_toArray, List.set_cons_succ, List.set_cons_zero])
    refine wpAnyH_take (i := 11) (v := undef) rfl (by kernel_rfl) (by kernel_rfl) (by kernel_rfl) (fun _ _ _ h => h) (Or.inr ⟨by rfl, rfl⟩) hHeld ?_
    (try simp only [Act.put, List.getElem_toArray, List.getElem_cons_succ, List.getElem_cons_zero, List.setIfInBounds_toArray, List.set_cons_succ, List.set_cons_zero])
    refine wpAnyH_take (i := 12) (v := undef) rfl (by kernel_rfl) (by kernel_rfl) (by kernel_rfl) (fun _ _ _ h => h) (Or.inr ⟨by rfl, rfl⟩) hHeld ?_
    (try simp only [Act.put, List.getElem_toArray, List.getElem_cons_succ, List.getElem_cons_zero, List.setIfInBounds_toArray, List.set_cons_succ, List.set_cons_zero])
    refine wpAnyH_take (i := 13) (v := undef) rfl (by kernel_rfl) (by kernel_rfl) (by kernel_rfl) (fun _ _ _ h => h) (Or.inr ⟨by rfl, rfl⟩) hHeld ?_
    (try simp only [Act.put, List.getElem_toArray, List.getElem_cons_succ, List.getElem_cons_zero, List.setIfInBounds_toArray, List.set_cons_succ, List.set_cons_zero])
    refine wpAnyH_take (i := 14) (v := ?_) rfl (by kernel_rfl) (by kernel_rfl) (by kernel_rfl) (fun _ _ _ h => h) (Or.inl ⟨by rfl, ?_⟩) hHeld ?_
    rotate_left
    · (intro wx hSx; obtain ⟨⟨a0, a1, a2, a3, a4, a5⟩, _⟩ : (_ ∧ _) ∧ True := ⟨hSx.b.cells, trivial⟩; go_simp; (try with_reducible rfl))
    (try simp only [Act.put, List.getElem_toArray, List.getElem_cons_succ, List.getElem_cons_zero, List.setIfInBounds_toArray, List.set_cons_succ, List.set_cons_zero])
    refine wpAnyH_done (by kernel_rfl) ?_ _
    clear hHeld
    generalize w9.drew = w10 at *
    obtain ⟨a0, a1, a2, a3, a4, a5⟩ := HH.out.i.1
    obtain ⟨b0, b1, b2, b3, b4, b5⟩ := HH.out.b.cells
    obtain ⟨p0, p1, p2, p3, p4, p5⟩ := HH.out.o.cells
    have pf := HH.out.o.free
    have bf := HH.out.b.free
    go_wp2
    refine bodyPost_ret (results_cell_tmp rfl _ _ (w.heap.size + 1) _ _ _ _ rfl HH.out.out.1 Try.underlying28 rfl (by kernel_rfl)) rfl ?_
    exact ⟨_, rfl, HH.out.out.2.1, HH.out.out.2.2⟩
  by_cases hq : b.next + (rdyB b : Int) = r.fin
  · have hXX := HX.out.symm.trans (if_pos ⟨hf, hq⟩)
    have tq : (b.next + (rdyB b : Int) == r.fin) = true := by simpa using hq
    have g0 : (r.fin == -1) = false := by simpa using hf
    have g1 : (r.fin != -1) = true := by simpa using hf
    clear hf
    clear hq
    subst hXX
    clear HX
    refine wp_region_held_drew (S := (FrX w r A cap gx ⟨r.st, b, r.fin, r.hi, r.code⟩ (.slice A8 b.chs.length c8))) (by kernel_rfl) HH.out (fun hHeld => ?_)
    refine wpAnyH_take (i := 0) (v := ?_) rfl (by kernel_rfl) (by kernel_rfl) (by kernel_rfl) (fun _ _ _ h => h) (Or.inl ⟨by rfl, ?_⟩) hHeld ?_
    rotate_left
    · (intro wx hSx; obtain ⟨⟨a0, a1, a2, a3, a4, a5⟩, _⟩ : (_ ∧ _) ∧ True := ⟨hSx.b.cells, trivial⟩; go_simp; (try with_reducible rfl))
    (try simp only [Act.put, List.getElem_toArray, List.getElem_cons_zero, List.setIfInBounds_toArray, List.set_cons_succ, List.set_cons_zero])
    refine wpAnyH_take (i := 1) (v := ?_) rfl (by kernel_rfl) (by kernel_rfl) (by kernel_rfl) (fun _ _ _ h => h) (Or.inl ⟨by rfl, ?_⟩) hHeld ?_
    rotate_left
    · (intro wx hSx; obtain ⟨⟨a0, a1, a2, a3, a4, a5⟩, _⟩ : (_ ∧ _) ∧ True := ⟨hSx.b.cells, trivial⟩; go_simp; (try with_reducible rfl))
    (try simp only [Act.put, List.getElem_toArray, List.getElem_cons_succ, List.getElem_cons_zero, List.setIfInBounds_toArray, List.set_cons_succ, List.set_cons_zero])
    refine wpAnyH_take (i := 2) (v := ?_) rfl (by kernel_rfl) (by kernel_rfl) (by kernel_rfl) (fun _ _ _ h => h) (Or.inl ⟨by rfl, ?_⟩) hHeld ?_
    rotate_left
    · (intro wx hSx; obtain ⟨⟨a0, a1, a2, a3, a4, a5⟩, _⟩ : (_ ∧ _) ∧ True := ⟨hSx.b.cells, trivial⟩; go_simp; (try with_reducible rfl))
    (try simp only [Act.put, List.getElem_toArray, List.getElem_cons_succ, List.getElem_cons_zero, List.setIfInBounds_toArray, List.set_cons_succ, List.set_cons_zero])
    refine wpAnyH_take (i := 3) (v := ?_) rfl (by kernel_rfl) (by kernel_rfl) (by kernel_rfl) (fun _ _ _ h => h) (Or.inl ⟨by rfl, ?_⟩) hHeld ?_
    rotate_left
    · (intro wx hSx; obtain ⟨⟨a0, a1, a2, a3, a4, a5⟩, _⟩ : (_ ∧ _) ∧ True := ⟨hSx.b.cells, trivial⟩; go_simp; (try with_reducible rfl))
    (try simp only [Act.put, List.getElem_toArray, List.getElem_cons_succ, List.getElem_cons_zero, List.setIfInBounds_toArray, List.set_cons_succ, List.set_cons_zero])
    refine wpAnyH_take (i := 4) (v := ?_) rfl (by kernel_rfl) (by kernel_rfl) (by kernel_rfl) (fun _ _ _ h => h) (Or.inl ⟨by rfl, ?_⟩) hHeld ?_
    rotate_left
    · (intro wx hSx; obtain ⟨⟨a0, a1, a2, a3, a4, a5⟩, _⟩ : (_ ∧ _) ∧ True := ⟨hSx.b.cells, trivial⟩; go_simp; (try with_reducible rfl))
    (try simp only [Act.put, List.getElem_toArray, List.getElem_cons_succ, List.getElem_cons_zero, List.setIfInBounds_toArray, List.set_cons_succ, List.set_cons_zero])
    refine wpAnyH_take (i := 5) (v := ?_) rfl (by kernel_rfl) (by kernel_rfl) (by kernel_rfl) (fun _ _ _ h => h) (Or.inl ⟨by rfl, ?_⟩) hHeld ?_
    rotate_left
    · (intro wx hSx; obtain ⟨⟨a0, a1, a2, a3, a4, a5⟩, _⟩ : (_ ∧ _) ∧ True := ⟨hSx.b.cells, trivial⟩; go_simp; (try with_reducible rfl))
    (try simp only [Act.put, List.getElem_toArray, List.getElem_cons_succ, List.getElem_cons_zero, List.setIfInBounds_toArray, List.set_cons_succ, List.set_cons_zero])
    refine wpAnyH_take (i := 6) (v := ?_) rfl (by kernel_rfl) (by kernel_rfl) (by kernel_rfl) (fun _ _ _ h => h) (Or.inl ⟨by rfl, ?_⟩) hHeld ?_
    rotate_left
    · (intro wx hSx; obtain ⟨⟨a0, a1, a2, a3, a4, a5⟩, _⟩ : (_ ∧ _) ∧ True := ⟨hSx.b.cells, trivial⟩; go_simp; (try with_reducible rfl))
    (try simp only [Act.put, List.getElem_toArray, List.getElem_cons_succ, List.getElem_cons_zero, List.setIfInBounds_toArray, List.set_cons_succ, List.set_cons_zero])
    refine wpAnyH_take (i := 7) (v := ?_) rfl (by kernel_rfl) (by kernel_rfl) (by kernel_rfl) (fun _ _ _ h => h) (Or.inl ⟨by rfl, ?_⟩) hHeld ?_
    rotate_left
    · (intro wx hSx; obtain ⟨⟨a0, a1, a2, a3, a4, a5⟩, _⟩ : (_ ∧ _) ∧ True := ⟨hSx.b.cells, trivial⟩; go_simp; (try with_reducible rfl))
    (try simp only [Act.put, List.getElem_toArray, List.getElem_cons_succ, List.getElem_cons_zero, List.setIfInBounds_toArray, List.set_cons_succ, List.set_cons_zero])
    refine wpAnyH_take (i := 8) (v := ?_) rfl (by kernel_rfl) (by kernel_rfl) (by kernel_rfl) (fun _ _ _ h => h) (Or.inl ⟨by rfl, ?_⟩) hHeld ?_
    rotate_left
    · (intro wx hSx; obtain ⟨⟨a0, a1, a2, a3, a4, a5⟩, _⟩ : (_ ∧ _) ∧ True := ⟨hSx.b.cells, trivial⟩; go_simp; (try with_reducible rfl))
    (try simp only [Act.put, List.getElem_toArray, List.getElem_cons_succ, List.getElem_cons_zero, List.setIfInBounds_toArray, List.set_cons_succ, List.set_cons_zero])
    refine wpAnyH_take (i := 11) (v := ?_) rfl (by kernel_rfl) (by kernel_rfl) (by kernel_rfl) (fun _ _ _ h => h) (Or.inl ⟨by rfl, ?_⟩) hHeld ?_
    rotate_left
    · (intro wx hSx; obtain ⟨⟨a0, a1, a2, a3, a4, a5⟩, _⟩ : (_ ∧ _) ∧ True := ⟨hSx.b.cells, trivial⟩; go_simp; (try with_reducible rfl))
    (try simp only [Act.put, List.getElem_toArray, List.getElem_cons_succ, List.getElem_cons_zero, List.setIfInBounds_toArray, List.set_cons_succ, List.set_cons_zero])
    refine wpAnyH_take (i := 12) (v := ?_) rfl (by kernel_rfl) (by kernel_rfl) (by kernel_rfl) (fun _ _ _ h => h) (Or.inl ⟨by rfl, ?_⟩) hHeld ?_
    rotate_left
    · (intro wx hSx; obtain ⟨⟨a0, a1, a2, a3, a4, a5⟩, _⟩ : (_ ∧ _) ∧ True := ⟨hSx.b.cells, trivial⟩; go_simp; (try with_reducible rfl))
    (try simp only [Act.put, List.getElem_toArray, List.getElem_cons_succ, List.getElem_cons_zero, List.setIfInBounds_toArray, List.set_cons_succ, List.set_cons_zero])
    refine wpAnyH_ready (rs := [9]) (by kernel_rfl) (by simp) ?_
    refine AllReadyH.cons rfl (fun K hK => ?_) AllReadyH.nil
    rw [if_pos (by rfl)]
    go_simp
    refine (HRD.out A8 c8 _ (HH.out.own.chs)).mono ?_
    rintro e w1 ⟨rfl, hb1⟩
    have HH := Lib.hid (HH.out.next hb1)
    (try simp only [])
    refine hK.out _ _ HH.out (fun hHeld => ?_)
    clear hb1
    clear hK K
    (try simp only [Act.put, List.getElem_toArray, List.getElem_cons_succ, List.getElem_cons_zero, List.setIfInBounds_toArray, List.set_cons_succ, List.set_cons_zero])
    refine wpAnyH_take (i := 10) (v := ?_) rfl (by kernel_rfl) (by kernel_rfl) (by kernel_rfl) (fun _ _ _ h => h) (Or.inl ⟨by rfl, ?_⟩) hHeld ?_
    rotate_left
    · (intro wx hSx; obtain ⟨⟨a0, a1, a2, a3, a4, a5⟩, _⟩ : (_ ∧ _) ∧ True := ⟨hSx.b.cells, trivial⟩; go_simp; (try with_reducible rfl))
    (try simp only [Act.put, List.getElem_toArray, List.getElem_cons_succ, List.getElem_cons_zero, List.setIfInBounds_toArray, List.set_cons_succ, List.set_cons_zero])
    refine wpAnyH_take (i := 13) (v := ?_) rfl (by kernel_rfl) (by kernel_rfl) (by kernel_rfl) (fun _ _ _ h => h) (Or.inl ⟨by rfl, ?_⟩) hHeld ?_
    rotate_left
    · (intro wx hSx; obtain ⟨⟨a0, a1, a2, a3, a4, a5⟩, _⟩ : (_ ∧ _) ∧ True := ⟨hSx.b.cells, trivial⟩; go_simp; (try with_reducible rfl))
    (try simp only [Act.put, List.getElem_toArray, List.getElem_cons_succ, List.getElem_cons_zero, List.setIfInBounds_toArray, List.set_cons_succ, List.set_cons_zero])
    refine wpAnyH_take (i := 14) (v := ?_) rfl (by kernel_rfl) (by kernel_rfl) (by kernel_rfl) (fun _ _ _ h => h) (Or.inl ⟨by rfl, ?_⟩) hHeld ?_
    rotate_left
    · (intro wx hSx; obtain ⟨⟨a0, a1, a2, a3, a4, a5⟩, _⟩ : (_ ∧ _) ∧ True := ⟨hSx.b.cells, trivial⟩; go_simp; (try with_reducible rfl))
    (try simp only [Act.put, List.getElem_toArray, List.getElem_cons_succ, List.getElem_cons_zero, List.setIfInBounds_toArray, List.set_cons_succ, List.set_cons_zero])
    refine wpAnyH_done (by kernel_rfl) ?_ _
    clear hHeld
    obtain ⟨b0, b1, b2, b3, b4, b5⟩ := HH.out.b.cells
    have bf := HH.out.b.free
    go_upto_region 15 with fail
    have HH := Lib.hid (HH.out.put0 2)
    clear b0 b1 b2 b3 b4 b5 bf
    obtain ⟨a0, a1, a2, a3, a4, a5⟩ := HH.out.i.1
    obtain ⟨b0, b1, b2, b3, b4, b5⟩ := HH.out.b.cells
    obtain ⟨p0, p1, p2, p3, p4, p5⟩ := HH.out.o.cells
    have pf := HH.out.o.free
    have bf := HH.out.b.free
    go_wp2
    refine bodyPost_ret (results_cell_tmp rfl _ _ (w.heap.size + 1) _ _ _ _ rfl HH.out.out.1 Try.underlying28 rfl (by kernel_rfl)) rfl ?_
    exact ⟨_, rfl, HH.out.out.2.1, HH.out.out.2.2⟩
  · have hXX := HX.out.symm.trans (if_neg (fun h => hq h.2))
    have tq : (b.next + (rdyB b : Int) == r.fin) = false := by simpa using hq
    have g0 : (r.fin == -1) = false := by simpa using hf
    have g1 : (r.fin != -1) = true := by simpa using hf
    clear hf
    clear hq
    subst hXX
    clear HX
    refine wp_region_held_drew (S := (FrX w r A cap gx ⟨r.st, b, r.fin, r.hi, r.code⟩ (.slice A8 b.chs.length c8))) (by kernel_rfl) HH.out (fun hHeld => ?_)
    refine wpAnyH_take (i := 0) (v := ?_) rfl (by kernel_rfl) (by kernel_rfl) (by kernel_rfl) (fun _ _ _ h => h) (Or.inl ⟨by rfl, ?_⟩) hHeld ?_
    rotate_left
    · (intro wx hSx; obtain ⟨⟨a0, a1, a2, a3, a4, a5⟩, _⟩ : (_ ∧ _) ∧ True := ⟨hSx.b.cells, trivial⟩; go_simp; (try with_reducible rfl))
    (try simp only [Act.put, List.getElem_toArray, List.getElem_cons_zero, List.setIfInBounds_toArray, List.set_cons_succ, List.set_cons_zero])
    refine wpAnyH_take (i := 1) (v := ?_) rfl (by kernel_rfl) (by kernel_rfl) (by kernel_rfl) (fun _ _ _ h => h) (Or.inl ⟨by rfl, ?_⟩) hHeld ?_
    rotate_left
    · (intro wx hSx; obtain ⟨⟨a0, a1, a2, a3, a4, a5⟩, _⟩ : (_ ∧ _) ∧ True := ⟨hSx.b.cells, trivial⟩; go_simp; (try with_reducible rfl))
    (try simp only [Act.put, List.getElem_toArray, List.getElem_cons_succ, List.getElem_cons_zero, List.setIfInBounds_toArray, List.set_cons_succ, List.set_cons_zero])
    refine wpAnyH_take (i := 2) (v := ?_) rfl (by kernel_rfl) (by kernel_rfl) (by kernel_rfl) (fun _ _ _ h => h) (Or.inl ⟨by rfl, ?_⟩) hHeld ?_
    rotate_left
    · (intro wx hSx; obtain ⟨⟨a0, a1, a2, a3, a4, a5⟩, _⟩ : (_ ∧ _) ∧ True := ⟨hSx.b.cells, trivial⟩; go_simp; (try with_reducible rfl))
    (try simp only [Act.put, List.getElem_toArray, List.getElem_cons_succ, List.getElem_cons_zero, List.setIfInBounds_toArray, List.set_cons_succ, List.set_cons_zero])
    refine wpAnyH_take (i := 3) (v := ?_) rfl (by kernel_rfl) (by kernel_rfl) (by kernel_rfl) (fun _ _ _ h => h) (Or.inl ⟨by rfl, ?_⟩) hHeld ?_
    rotate_left
    · (intro wx hSx; obtain ⟨⟨a0, a1, a2, a3, a4, a5⟩, _⟩ : (_ ∧ _) ∧ True := ⟨hSx.b.cells, trivial⟩; go_simp; (try with_reducible rfl))
    (try simp only [Act.put, List.getElem_toArray, List.getElem_cons_succ, List.getElem_cons_zero, List.setIfInBounds_toArray, List.set_cons_succ, List.set_cons_zero])
    refine wpAnyH_take (i := 4) (v := ?_) rfl (by kernel_rfl) (by kernel_rfl) (by kernel_rfl) (fun _ _ _ h => h) (Or.inl ⟨by rfl, ?_⟩) hHeld ?_
    rotate_left
    · (intro wx hSx; obtain ⟨⟨a0, a1, a2, a3, a4, a5⟩, _⟩ : (_ ∧ _) ∧ True := ⟨hSx.b.cells, trivial⟩; go_simp; (try with_reducible rfl))
    (try simp only [Act.put, List.getElem_toArray, List.getElem_cons_succ, List.getElem_cons_zero, List.setIfInBounds_toArray, List.set_cons_succ, List.set_cons_zero])
    refine wpAnyH_take (i := 5) (v := ?_) rfl (by kernel_rfl) (by kernel_rfl) (by kernel_rfl) (fun _ _ _ h => h) (Or.inl ⟨by rfl, ?_⟩) hHeld ?_
    rotate_left
    · (intro wx hSx; obtain ⟨⟨a0, a1, a2, a3, a4, a5⟩, _⟩ : (_ ∧ _) ∧ True := ⟨hSx.b.cells, trivial⟩; go_simp; (try with_reducible rfl))
    (try simp only [Act.put, List.getElem_toArray, List.getElem_cons_succ, List.getElem_cons_zero, List.setIfInBounds_toArray, List.set_cons_succ, List.set_cons_zero])
    refine wpAnyH_take (i := 6) (v := ?_) rfl (by kernel_rfl) (by kernel_rfl) (by kernel_rfl) (fun _ _ _ h => h) (Or.inl ⟨by rfl, ?_⟩) hHeld ?_
    rotate_left
    · (intro wx hSx; obtain ⟨⟨a0, a1, a2, a3, a4, a5⟩, _⟩ : (_ ∧ _) ∧ True := ⟨hSx.b.cells, trivial⟩; go_simp; (try with_reducible rfl))
    (try simp only [Act.put, List.getElem_toArray, List.getElem_cons_succ, List.getElem_cons_zero, List.setIfInBounds_toArray, List.set_cons_succ, List.set_cons_zero])
    refine wpAnyH_take (i := 7) (v := ?_) rfl (by kernel_rfl) (by kernel_rfl) (by kernel_rfl) (fun _ _ _ h => h) (Or.inl ⟨by rfl, ?_⟩) hHeld ?_
    rotate_left
    · (intro wx hSx; obtain ⟨⟨a0, a1, a2, a3, a4, a5⟩, _⟩ : (_ ∧ _) ∧ True := ⟨hSx.b.cells, trivial⟩; go_simp; (try with_reducible rfl))
    (try simp only [Act.put, List.getElem_toArray, List.getElem_cons_succ, List.getElem_cons_zero, List.setIfInBounds_toArray, List.set_cons_succ, List.set_cons_zero])
    refine wpAnyH_take (i := 8) (v := ?_) rfl (by kernel_rfl) (by kernel_rfl) (by kernel_rfl) (fun _ _ _ h => h) (Or.inl ⟨by rfl, ?_⟩) hHeld ?_
    rotate_left
    · (intro wx hSx; obtain ⟨⟨a0, a1, a2, a3, a4, a5⟩, _⟩ : (_ ∧ _) ∧ True := ⟨hSx.b.cells, trivial⟩; go_simp; (try with_reducible rfl))
    (try simp only [Act.put, List.getElem_toArray, List.getElem_cons_succ, List.getElem_cons_zero, List.setIfInBounds_toArray, List.set_cons_succ, List.set_cons_zero])
    refine wpAnyH_take (i := 11) (v := ?_) rfl (by kernel_rfl) (by kernel_rfl) (by kernel_rfl) (fun _ _ _ h => h) (Or.inl ⟨by rfl, ?_⟩) hHeld ?_
    rotate_left
    · (intro wx hSx; obtain ⟨⟨a0, a1, a2, a3, a4, a5⟩, _⟩ : (_ ∧ _) ∧ True := ⟨hSx.b.cells, trivial⟩; go_simp; (try with_reducible rfl))
    (try simp only [Act.put, List.getElem_toArray, List.getElem_cons_succ, List.getElem_cons_zero, List.setIfInBounds_toArray, List.set_cons_succ, List.set_cons_zero])
    refine wpAnyH_take (i := 12) (v := ?_) rfl (by kernel_rfl) (by kernel_rfl) (by kernel_rfl) (fun _ _ _ h => h) (Or.inl ⟨by rfl, ?_⟩) hHeld ?_
    rotate_left
    · (intro wx hSx; obtain ⟨⟨a0, a1, a2, a3, a4, a5⟩, _⟩ : (_ ∧ _) ∧ True := ⟨hSx.b.cells, trivial⟩; go_simp; (try with_reducible rfl))
    (try simp only [Act.put, List.getElem_toArray, List.getElem_cons_succ, List.getElem_cons_zero, List.setIfInBounds_toArray, List.set_cons_succ, List.set_cons_zero])
    refine wpAnyH_ready (rs := [9]) (by kernel_rfl) (by simp) ?_
    refine AllReadyH.cons rfl (fun K hK => ?_) AllReadyH.nil
    rw [if_pos (by rfl)]
    go_simp
    refine (HRD.out A8 c8 _ (HH.out.own.chs)).mono ?_
    rintro e w1 ⟨rfl, hb1⟩
    have HH := Lib.hid (HH.out.next hb1)
    (try simp only [])
    refine hK.out _ _ HH.out (fun hHeld => ?_)
    clear hb1
    clear hK K
    (try simp only [Act.put, List.getElem_toArray, List.getElem_cons_succ, List.getElem_cons_zero, List.setIfInBounds_toArray, List.set_cons_succ, List.set_cons_zero])
    refine wpAnyH_take (i := 10) (v := ?_) rfl (by kernel_rfl) (by kernel_rfl) (by kernel_rfl) (fun _ _ _ h => h) (Or.inl ⟨by rfl, ?_⟩) hHeld ?_
    rotate_left
    · (intro wx hSx; obtain ⟨⟨a0, a1, a2, a3, a4, a5⟩, _⟩ : (_ ∧ _) ∧ True := ⟨hSx.b.cells, trivial⟩; go_simp; (try with_reducible rfl))
    (try simp only [Act.put, List.getElem_toArray, List.getElem_cons_succ, List.getElem_cons_zero, List.setIfInBounds_toArray, List.set_cons_succ, List.set_cons_zero])
    refine wpAnyH_take (i := 13) (v := ?_) rfl (by kernel_rfl) (by kernel_rfl) (by kernel_rfl) (fun _ _ _ h => h) (Or.inl ⟨by rfl, ?_⟩) hHeld ?_
    rotate_left
    · (intro wx hSx; obtain ⟨⟨a0, a1, a2, a3, a4, a5⟩, _⟩ : (_ ∧ _) ∧ True := ⟨hSx.b.cells, trivial⟩; go_simp; (try with_reducible rfl))
    (try simp only [Act.put, List.getElem_toArray, List.getElem_cons_succ, List.getElem_cons_zero, List.setIfInBounds_toArray, List.set_cons_succ, List.set_cons_zero])
    refine wpAnyH_take (i := 14) (v := ?_) rfl (by kernel_rfl) (by kernel_rfl) (by kernel_rfl) (fun _ _ _ h => h) (Or.inl ⟨by rfl, ?_⟩) hHeld ?_
    rotate_left
    · (intro wx hSx; obtain ⟨⟨a0, a1, a2, a3, a4, a5⟩, _⟩ : (_ ∧ _) ∧ True := ⟨hSx.b.cells, trivial⟩; go_simp; (try with_reducible rfl))
    (try simp only [Act.put, List.getElem_toArray, List.getElem_cons_succ, List.getElem_cons_zero, List.setIfInBounds_toArray, List.set_cons_succ, List.set_cons_zero])
    refine wpAnyH_done (by kernel_rfl) ?_ _
    clear hHeld
    obtain ⟨a0, a1, a2, a3, a4, a5⟩ := HH.out.i.1
    obtain ⟨b0, b1, b2, b3, b4, b5⟩ := HH.out.b.cells
    obtain ⟨p0, p1, p2, p3, p4, p5⟩ := HH.out.o.cells
    have pf := HH.out.o.free
    have bf := HH.out.b.free
    go_wp2
    refine bodyPost_ret (results_cell_tmp rfl _ _ (w.heap.size + 1) _ _ _ _ rfl HH.out.out.1 Try.underlying28 rfl (by kernel_rfl)) rfl ?_
    exact ⟨_, rfl, HH.out.out.2.1, HH.out.out.2.2⟩
/-- spec.ReceiveData -/
theorem sdat (r : Rc) (o : Int) (d : ByteArray) (f : Bool) (A : Option Addr) (cap B : Nat) (w : World) (hB : B ≤ w.heap.size) (hr : Chs w B A r.buf.chs) (hn : r.buf.chs.length ≤ 10000000) (hi : inB r.buf.chs) (hx : inRc r) (ho : -9223372036854775808 ≤ o ∧ o ≤ 9223372036854775807) (hd : sumC r.buf.chs + d.size ≤ 8000000) :
    Calls Try.prog 34 #[rcV r (.slice A r.buf.chs.length cap), .int .i64 o, .string d, .bool f] w fun e w' => ∃ v, e = .returned (.tuple #[rcV (rcvRc r o d f).1 v, .int .i64 (rcvRc r o d f).2]) ∧ OwnX w' w.heap.size v (rcvRc r o d f).1.buf.chs ∧ Below w.heap.size w w' := by
  by_cases hno : ¬ (okRc r ∧ 0 ≤ o ∧ o ≤ 4611686018427387903 - d.size) ∨ badRc r (o + d.size) f ∨ 1 < r.st
  · exact sdat_no r o d f A cap B w hB hr hn hi hx ho hd hno
  have hv : okRc r ∧ 0 ≤ o ∧ o ≤ 4611686018427387903 - d.size := Decidable.byContradiction fun h => hno (.inl h)
  have hb : ¬ badRc r (o + d.size) f := fun h => hno (.inr (.inl h))
  have hs : ¬ 1 < r.st := fun h => hno (.inr (.inr h))
  cases f
  · by_cases hE : r.hi < o + (d.size : Int)
    · exact sdat_nu r o d A cap B w hB hr hn hi hx ho hd hv.1 (by omega) (by omega) hb hs hE
    · exact sdat_nk r o d A cap B w hB hr hn hi hx ho hd hv.1 (by omega) (by omega) hb hs hE
  · by_cases hE : r.hi < o + (d.size : Int)
    · exact sdat_fu r o d A cap B w hB hr hn hi hx ho hd hv.1 (by omega) (by omega) hb hs hE
    · exact sdat_fk r o d A cap B w hB hr hn hi hx ho hd hv.1 (by omega) (by omega) hb hs hE
end Go.Proofs.Ytmmoedhfeaokgaa
