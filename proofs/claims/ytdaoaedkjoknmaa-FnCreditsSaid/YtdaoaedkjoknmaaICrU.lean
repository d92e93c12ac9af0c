/-
  What impl.UseCredit returns: an atomic counter, from which a method value takes.
-/
import Derived.Test.YtdaoaedkjoknmaaICr
import Derived.Laws.LoneSync
import Derived.FnLit
import Derived.Deep.RegionHeld3
import Derived.Deep.RegionWith
import Derived.Deep.RegionLaw
import Derived.BigQuiet
import Derived.Deep.QuietTactic
namespace Go.Proofs.Ytdaoaedkjoknmaa
open Go.RowKit Go.Deep Go.Proofs.Ytdaoaedkjoknmaa.Num

set_option maxRecDepth 100000 in
/-- (*sync/atomic.Int64).Store -/
theorem iato (g k : Nat) (x y : Int) (w : World) (hc : w.cell? ⟨g, k, none⟩ = some (.int .i64 x)) (hz : w.frozen? ⟨g, k, none⟩ = false) :
    Calls Try.prog 42 #[.pointer (some ⟨g, k, none⟩), .int .i64 y] w fun e w' => e = .returned (.tuple #[]) ∧ w' = w.setCell ⟨g, k, none⟩ (.int .i64 y) := by
  have hst := run_call_store (P := Try.prog) Try.func44 (by kernel_rfl) (by kernel_rfl) (by kernel_rfl) (by kernel_rfl) (k := .i64) (y := y) hc hz
  go_enter Try.func42, Try.ntmps42
  go_wp2
  go_end0
  exact ⟨rfl, rfl⟩
set_option maxRecDepth 100000 in
/-- (*sync/atomic.Int64).Add -/
theorem iaadd (g k : Nat) (x y z : Int) (w : World) (hc : w.cell? ⟨g, k, none⟩ = some (.int .i64 x)) (hz : w.frozen? ⟨g, k, none⟩ = false) (hs : wrap64 (x + y) = z) :
    Calls Try.prog 45 #[.pointer (some ⟨g, k, none⟩), .int .i64 y] w fun e w' => e = .returned (.int .i64 z) ∧ w' = w.setCell ⟨g, k, none⟩ (.int .i64 z) := by
  have hst := run_call_add (P := Try.prog) Try.func46 (by kernel_rfl) (by kernel_rfl) (by kernel_rfl) .i64 (by kernel_rfl) (y := y) (s := z) hc hz (by rw [← hs]; simp [go_sem, wrap64, IntKind.wrap_i64])
  go_enter Try.func45, Try.ntmps45
  go_wp2
  go_ret
  exact ⟨rfl, rfl⟩

/-- The counter's block. -/
def BoxT (w : World) (g : Nat) (x : Int) : Prop := w.heap[g]? = some (.cells #[.int .i64 x] 61 (0, 0))
theorem BoxT.cell {w : World} {g : Nat} {x : Int} (h : BoxT w g x) : w.cell? ⟨g, 0, none⟩ = some (.int .i64 x) := cell_of_row w g 0 _ _ _ h
theorem BoxT.free {w : World} {g : Nat} {x : Int} (h : BoxT w g x) : w.frozen? ⟨g, 0, none⟩ = false := by
  unfold BoxT at h
  simp [World.frozen?, h]
theorem BoxT.lt {w : World} {g : Nat} {x : Int} (h : BoxT w g x) : g < w.heap.size := (Array.getElem?_eq_some_iff.1 h).1
theorem BoxT.set {w : World} {g : Nat} {x : Int} (h : BoxT w g x) (y : Int) : BoxT (w.setCell ⟨g, 0, none⟩ (.int .i64 y)) g y := by
  unfold BoxT at h ⊢
  simp [World.setCell, Array.getElem?_modify, h]
theorem BoxT.next {w w' : World} {g : Nat} {x : Int} (h : BoxT w g x) (hb : Below w.heap.size w w') : BoxT w' g x := (hb.block g h.lt).trans h
theorem BoxT.next_drew {w : World} {g : Nat} {x : Int} (h : BoxT w g x) : BoxT w.drew g x := h
theorem BoxT.new (w : World) (x : Int) : BoxT (w.alloc (.cells #[.int .i64 x] 61)) w.heap.size x := heap_alloc_new w _

set_option maxRecDepth 100000 in
set_option maxHeartbeats 1600000 in
/-- (*impl.byteCounter).take -/
theorem itakec (g K : Nat) (x n : Int) (w : World) (hB : BoxT w g x) (hK : K ≤ g) (hx : 0 ≤ x ∧ x ≤ 4611686018427387903) (hn : -9223372036854775808 ≤ n ∧ n ≤ 9223372036854775807) :
    Calls Try.prog 43 #[.pointer (some ⟨g, 0, none⟩), .int .i64 n] w fun e w' => e = .returned (.bool (decide (0 ≤ n ∧ n ≤ x))) ∧ Below K w w' := by
  have HB := Lib.hid hB
  have HL : Hid (∀ y, Below K w (w.setCell ⟨g, 0, none⟩ (.int .i64 y))) := Lib.hid fun y => (Below.refl _ _).setCell (p := ⟨g, 0, none⟩) hK _
  have HL2 : Hid (∀ y z, Below K w ((w.setCell ⟨g, 0, none⟩ (.int .i64 y)).setCell ⟨g, 0, none⟩ (.int .i64 z))) := Lib.hid fun y z => (HL.out y).setCell (p := ⟨g, 0, none⟩) hK _
  by_cases h0 : 0 ≤ n
  rotate_left
  · have HV : Hid (decide (0 ≤ n ∧ n ≤ x) = false) := Lib.hid (decide_eq_false fun h => h0 h.1)
    have d0 : decide (n < 0) = true := decide_eq_true (by omega)
    clear h0 hx hn hB
    go_enter Try.func43, Try.ntmps43
    go_wp2
    go_ret
    exact ⟨by rw [HV.out]; rfl, Below.refl _ _⟩
  have d0 : decide (n < 0) = false := decide_eq_false (by omega)
  have hw : wrap64 (-n) = -n := by unfold wrap64; omega
  have HA := Lib.hid (iaadd g 0 x (-n) (x - n) w HB.out.cell HB.out.free (by unfold wrap64; omega))
  have HA2 := Lib.hid (iaadd g 0 (x - n) n x (w.setCell ⟨g, 0, none⟩ (.int .i64 (x - n))) (HB.out.set _).cell (HB.out.set _).free (by unfold wrap64; omega))
  by_cases h1 : n ≤ x
  · have HV : Hid (decide (0 ≤ n ∧ n ≤ x) = true) := Lib.hid (decide_eq_true ⟨h0, h1⟩)
    have d1 : decide (n ≤ x) = true := decide_eq_true h1
    clear h0 h1 hx hn hB
    go_enter Try.func43, Try.ntmps43
    go_wp2_with fail
    refine HA.out.mono ?_
    rintro e w1 ⟨rfl, rfl⟩
    go_wp2
    go_ret
    exact ⟨by rw [HV.out]; rfl, HL.out _⟩
  · have HV : Hid (decide (0 ≤ n ∧ n ≤ x) = false) := Lib.hid (decide_eq_false fun h => h1 h.2)
    have d1 : decide (n ≤ x) = false := decide_eq_false h1
    clear h0 h1 hx hn hB
    go_enter Try.func43, Try.ntmps43
    go_wp2_with fail
    refine HA.out.mono ?_
    rintro e w1 ⟨rfl, rfl⟩
    go_wp2_with fail
    refine HA2.out.mono ?_
    rintro e w2 ⟨rfl, rfl⟩
    go_wp2
    go_ret
    exact ⟨by rw [HV.out]; rfl, HL2.out _ _⟩

set_option maxRecDepth 100000 in
set_option maxHeartbeats 1600000 in
/-- impl.takerOf -/
theorem itaker (c : Cr) (w : World) :
    Calls Try.prog 35 #[crV c] w fun e w' => ∃ g : Nat, e = .returned (.func (.func 43) #[.pointer (some ⟨g, 0, none⟩)] #[]) ∧ w.heap.size ≤ g ∧ BoxT w' g (leftCr c) ∧ Below w.heap.size w w' := by
  have HB := Lib.hid (BoxC.new w 25 c.lim c.used c.bl c.told)
  have HL := Lib.hid ((Below.refl w.heap.size w).alloc (Nat.le_refl _) (.cells (crC c.lim c.used c.bl c.told) 25))
  have HLE := Lib.hid fun W => ileft c W
  have HT := Lib.hid (BoxT.new (w.alloc (.cells (crC c.lim c.used c.bl c.told) 25)) 0)
  have HB := Lib.hid (HB.out.alloc (.cells #[.int .i64 0] 61))
  have HL := Lib.hid (HL.out.alloc HL.out.size (.cells #[.int .i64 0] 61))
  have hs : (w.alloc (.cells (crC c.lim c.used c.bl c.told) 25)).heap.size = w.heap.size + 1 := by simp
  rw [hs] at HT
  clear hs
  have hge : w.heap.size ≤ w.heap.size + 1 := Nat.le_succ _
  have HG := Lib.hid hge
  clear hge
  go_enter Try.func35, Try.ntmps35
  go_upto_region 2 with fail
  generalize (w.alloc (.cells (crC c.lim c.used c.bl c.told) 25)).alloc (.cells #[.int .i64 0] 61) = w2 at *
  go_cut [] (fun wx => BoxT wx (w.heap.size + 1) (leftCr c) ∧ Below w.heap.size w wx)
  case first =>
    have HTd := Lib.hid HT.out.next_drew
    have HLd := Lib.hid HL.out.drew
    obtain ⟨a0, a1, a2, a3⟩ := HB.out.cells
    go_region_with (first | (go_at_call 15; refine (HLE.out _).mono ?_; rintro e w3 ⟨rfl, hb⟩; have HT3 := Lib.hid (HTd.out.next hb); have HL3 := Lib.hid (HLd.out.trans (hb.mono HLd.out.size)); clear hb) | (go_at_call 42; refine (iato _ 0 0 _ _ HT3.out.cell HT3.out.free).mono ?_; rintro e w4 ⟨rfl, rfl⟩))
    all_goals (
      go_wp2
      go_meet
      exact ⟨HT3.out.set _, HL3.out.setCell (p := ⟨_, _, _⟩) HG.out _⟩)
  case rest =>
  obtain ⟨ht, hl⟩ := hcut
  have HT := Lib.hid ht
  have HL := Lib.hid hl
  clear ht hl
  go_wp2
  go_ret
  exact ⟨_, rfl, HG.out, HT.out, HL.out⟩

set_option maxRecDepth 100000 in
set_option maxHeartbeats 1600000 in
/-- impl.UseCredit -/
theorem iuse (c : Cr) (n : Int) (hn : -9223372036854775808 ≤ n ∧ n ≤ 9223372036854775807) (w : World) :
    Calls Try.prog 12 #[crV c, .int .i64 n] w fun e w' => e = .returned (.tuple #[crV (useCr c n), .bool (decide (canU c n))]) ∧ Below w.heap.size w w' := by
  have HH := Lib.hid (IrC.start w c)
  have HIS := Lib.hid fun W => iisc c W
  have HTK := Lib.hid fun W => itaker c W
  by_cases hk : okCr c
  rotate_left
  · have hq : ¬ canU c n := fun h => hk h.1
    have HV : Hid (useCr c n = c ∧ decide (canU c n) = false) := Lib.hid ⟨if_neg hq, decide_eq_false hq⟩
    rw [decide_eq_false hk] at HIS
    clear hk hq hn
    go_enter Try.func12, Try.ntmps12
    go_upto_region 1 with fail
    generalize (w.alloc (.cells (crC c.lim c.used c.bl c.told) 25)).alloc (.cells (crC 0 0 0 0) 25) = w2 at *
    obtain ⟨a0, a1, a2, a3⟩ := HH.out.b.cells
    go_wp2_with fail
    refine (HTK.out _).mono ?_
    rintro e w3 ⟨g, rfl, hg, ht, hb⟩
    have HG := Lib.hid (Nat.le_trans HH.out.size hg)
    have HT := Lib.hid ht
    have HH := Lib.hid (HH.out.next hb)
    clear hg ht hb a0 a1 a2 a3
    obtain ⟨a0, a1, a2, a3⟩ := HH.out.b.cells
    go_wp2_with fail
    refine (HIS.out _).mono ?_
    rintro e w4 ⟨rfl, hb⟩
    have HT := Lib.hid (HT.out.next hb)
    have HH := Lib.hid (HH.out.next hb)
    clear hb a0 a1 a2 a3
    obtain ⟨a0, a1, a2, a3⟩ := HH.out.b.cells
    obtain ⟨q0, q1, q2, q3⟩ := HH.out.o.cells
    have qf := HH.out.o.free
    have pf := HH.out.b.free
    go_wp2
    have X := HH.out.out (c)
    refine bodyPost_ret (results_cr rfl _ _ (w.heap.size + 1) _ _ _ _ rfl X.1 Try.underlying25 rfl (by kernel_rfl)) rfl ?_
    exact ⟨by rw [HV.out.1, HV.out.2]; rfl, X.2⟩
  rw [decide_eq_true hk] at HIS
  have hl : leftCr c = c.lim - c.used := if_pos hk
  have hx : 0 ≤ leftCr c ∧ leftCr c ≤ 4611686018427387903 := by
    have h1 := hk.1
    have h2 := hk.2.1
    unfold okL at h1
    omega
  have HTA : Hid (∀ g W, BoxT W g (leftCr c) → w.heap.size + 2 ≤ g → Calls Try.prog 43 #[.pointer (some ⟨g, 0, none⟩), .int .i64 n] W fun e w' => e = .returned (.bool (decide (0 ≤ n ∧ n ≤ leftCr c))) ∧ Below (w.heap.size + 2) W w') := Lib.hid fun g W h1 h2 => itakec g _ _ n W h1 h2 hx hn
  by_cases hq : canU c n
  rotate_left
  · have HV : Hid (useCr c n = c ∧ decide (canU c n) = false) := Lib.hid ⟨if_neg hq, decide_eq_false hq⟩
    rw [decide_eq_false (fun h : 0 ≤ n ∧ n ≤ leftCr c => hq ⟨hk, h.1, by rw [← hl]; exact h.2⟩)] at HTA
    clear hk hq hn hl hx
    go_enter Try.func12, Try.ntmps12
    go_upto_region 1 with fail
    generalize (w.alloc (.cells (crC c.lim c.used c.bl c.told) 25)).alloc (.cells (crC 0 0 0 0) 25) = w2 at *
    obtain ⟨a0, a1, a2, a3⟩ := HH.out.b.cells
    go_wp2_with fail
    refine (HTK.out _).mono ?_
    rintro e w3 ⟨g, rfl, hg, ht, hb⟩
    have HG := Lib.hid (Nat.le_trans HH.out.size hg)
    have HT := Lib.hid ht
    have HH := Lib.hid (HH.out.next hb)
    clear hg ht hb a0 a1 a2 a3
    obtain ⟨a0, a1, a2, a3⟩ := HH.out.b.cells
    go_wp2_with fail
    refine (HIS.out _).mono ?_
    rintro e w4 ⟨rfl, hb⟩
    have HT := Lib.hid (HT.out.next hb)
    have HH := Lib.hid (HH.out.next hb)
    clear hb a0 a1 a2 a3
    obtain ⟨a0, a1, a2, a3⟩ := HH.out.b.cells
    obtain ⟨q0, q1, q2, q3⟩ := HH.out.o.cells
    have qf := HH.out.o.free
    have pf := HH.out.b.free
    go_wp2_with fail
    refine (HTA.out _ _ HT.out HG.out).mono ?_
    rintro e w5 ⟨rfl, hb⟩
    have HH := Lib.hid (HH.out.up (Nat.le_refl _) hb)
    clear hb a0 a1 a2 a3 q0 q1 q2 q3 qf pf
    obtain ⟨a0, a1, a2, a3⟩ := HH.out.b.cells
    obtain ⟨q0, q1, q2, q3⟩ := HH.out.o.cells
    have qf := HH.out.o.free
    have pf := HH.out.b.free
    go_wp2
    have X := HH.out.out (c)
    refine bodyPost_ret (results_cr rfl _ _ (w.heap.size + 1) _ _ _ _ rfl X.1 Try.underlying25 rfl (by kernel_rfl)) rfl ?_
    exact ⟨by rw [HV.out.1, HV.out.2]; rfl, X.2⟩
  have HV : Hid (useCr c n = ⟨c.lim, c.used + n, c.bl, c.told⟩ ∧ decide (canU c n) = true) := Lib.hid ⟨if_pos hq, decide_eq_true hq⟩
  rw [decide_eq_true (show 0 ≤ n ∧ n ≤ leftCr c from ⟨hq.2.1, by rw [hl]; exact hq.2.2⟩)] at HTA
  have hwa : wrap64 (c.used + n) = c.used + n := by
    have h1 := hk.1
    have h2 := hk.2.1
    have h3 := hq.2
    unfold okL at h1
    unfold wrap64
    clear HIS HV HH HTK HTA
    omega
  clear hk hq hn hl hx
  go_enter Try.func12, Try.ntmps12
  go_upto_region 1 with fail
  generalize (w.alloc (.cells (crC c.lim c.used c.bl c.told) 25)).alloc (.cells (crC 0 0 0 0) 25) = w2 at *
  obtain ⟨a0, a1, a2, a3⟩ := HH.out.b.cells
  go_wp2_with fail
  refine (HTK.out _).mono ?_
  rintro e w3 ⟨g, rfl, hg, ht, hb⟩
  have HG := Lib.hid (Nat.le_trans HH.out.size hg)
  have HT := Lib.hid ht
  have HH := Lib.hid (HH.out.next hb)
  clear hg ht hb a0 a1 a2 a3
  obtain ⟨a0, a1, a2, a3⟩ := HH.out.b.cells
  go_wp2_with fail
  refine (HIS.out _).mono ?_
  rintro e w4 ⟨rfl, hb⟩
  have HT := Lib.hid (HT.out.next hb)
  have HH := Lib.hid (HH.out.next hb)
  clear hb a0 a1 a2 a3
  obtain ⟨a0, a1, a2, a3⟩ := HH.out.b.cells
  obtain ⟨q0, q1, q2, q3⟩ := HH.out.o.cells
  have qf := HH.out.o.free
  have pf := HH.out.b.free
  go_wp2_with fail
  refine (HTA.out _ _ HT.out HG.out).mono ?_
  rintro e w5 ⟨rfl, hb⟩
  have HH := Lib.hid (HH.out.up (Nat.le_refl _) hb)
  clear hb a0 a1 a2 a3 q0 q1 q2 q3 qf pf
  obtain ⟨a0, a1, a2, a3⟩ := HH.out.b.cells
  obtain ⟨q0, q1, q2, q3⟩ := HH.out.o.cells
  have qf := HH.out.o.free
  have pf := HH.out.b.free
  go_upto_region 5 with fail
  have HN := Lib.hid (HH.out.put1 (c.used + n))
  clear a0 a1 a2 a3 q0 q1 q2 q3 qf pf HH
  generalize w5.setCell ⟨w.heap.size, 1, none⟩ (.int .i64 (c.used + n)) = w6 at *
  have HH := HN
  clear HN
  obtain ⟨a0, a1, a2, a3⟩ := HH.out.b.cells
  obtain ⟨q0, q1, q2, q3⟩ := HH.out.o.cells
  have qf := HH.out.o.free
  have pf := HH.out.b.free
  go_wp2
  have X := HH.out.out (⟨c.lim, c.used + n, c.bl, c.told⟩)
  refine bodyPost_ret (results_cr rfl _ _ (w.heap.size + 1) _ _ _ _ rfl X.1 Try.underlying25 rfl (by kernel_rfl)) rfl ?_
  exact ⟨by rw [HV.out.1, HV.out.2]; rfl, X.2⟩
end Go.Proofs.Ytdaoaedkjoknmaa
