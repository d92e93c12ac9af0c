/-
  What laws.toIntS and laws.eqIntS return.
  What laws.markIntS and laws.heldIntS return: the marks 1, 2, .. are written into a slice of the call's own, and found there again.
  Ints of the call's own, in whatever block they lie: what laws.szIntS, markIntS return.
  What the laws' words on rings return: szRing, toRing, eqRing, markRing, heldRing.
  Rows of ranges of the call's own; what laws.eqRange and eqRangeS return.
  What laws.markRangeS and laws.heldRangeS return.
  What the laws' words on ranges return: toRange, toRangeS, szRangeS.
  Ranges of the call's own, in whatever block they lie: what laws.markRangeS, heldRangeS return.
  What the laws' words on senders return: szSender, eqSender, markSender, heldSender.
  What laws.toSender returns.
  Words of the exact laws on senders: a variable that is marked, that others are marked beside, that is copied.
  The exact law on AckReset, walked.
  What spec.l9Copy returns.
  What spec.IsSender returns, of any sender.
  What spec.AckReset returns.
  Plain facts about a sender: the next piece can be sent, and what reports leave. No program is imported.
  Plain facts about the receiving side: a receiver's states, data, resets, reads. No program is imported.
  Plain facts: what a receiver takes, loses and gives leaves it valid. No program is imported.
  Plain facts: a sender whose pieces travel, and the receiver that gets them. No program is imported.
  Plain facts about a sender: how the program checks its sets and what it sends. No program is imported.
  What impl.IsRanges, inRange, HasNumber and FirstGap return.
  What impl.CountNumbers returns.
  What impl.CommonRanges returns.
  Impl's sets of ranges: the small functions.
-/
import Derived.Test.YtjohbfdifdjldacInts
import Derived.Deep.QuietTactic
import Derived.BigQuiet
import Derived.Test.YtjohbfdifdjldacKOwn
import Derived.Test.YtjohbfdifdjldacRnV
import Derived.Deep.DeepCutAuto
import Derived.Deep.CutBlock
import Derived.Deep.RegionHeld3
import Derived.Deep.RegionLaw
import Derived.Test.YtjohbfdifdjldacSRng
import Derived.Laws.OwnMore
import Derived.Test.YtjohbfdifdjldacSRng6
import Derived.Test.YtjohbfdifdjldacKOwnP
import Derived.Test.YtjohbfdifdjldacSnV
import Derived.Test.YtjohbfdifdjldacSnK
import Derived.Test.YtjohbfdifdjldacSnN2
import Derived.Test.YtjohbfdifdjldacSRn4
import Derived.Test.YtjohbfdifdjldacSRng5
import Derived.Test.YtjohbfdifdjldacSRng9
import Derived.Test.YtjohbfdifdjldacSCnt
import Derived.Test.YtjohbfdifdjldacSS1
import Derived.Test.YtjohbfdifdjldacSS4A
import Derived.Test.YtjohbfdifdjldacSS4B
import Derived.Test.YtjohbfdifdjldacSS4C
import Derived.Test.YtjohbfdifdjldacSS4E
import Derived.Test.YtjohbfdifdjldacSnN4
import Derived.Test.YtjohbfdifdjldacBufN
import Derived.Test.YtjohbfdifdjldacSRng3
namespace Go.Proofs.Ytjohbfdifdjldac
open Go.RowKit Go.Deep Go.Proofs.Ytjohbfdifdjldac.Num

theorem below_drewN' {B : Nat} {a w : World} (h : Below B a w) (n : Nat) : Below B a (w.drewN n) := ⟨h.os, h.tape, h.output, h.size, h.block⟩
theorem cellsI_set (a b : List Int) (c x : Int) : (cellsI (a ++ c :: b)).setIfInBounds a.length (.int .i64 x) = cellsI (a ++ x :: b) := by
  unfold cellsI valsI
  rw [List.setIfInBounds_toArray]
  congr 1
  rw [List.map_append, List.map_cons, List.set_append_right _ _ (by simp)]
  simp
set_option maxRecDepth 100000 in
/-- laws.toIntS: a copy, in a new block. -/
theorem toints (zs : List Int) (A : Option Addr) (cap B : Nat) (w : World) (hB : B ≤ w.heap.size) (hr : Ints w B A zs) (hn : zs.length ≤ 1048576) :
    Calls Try.prog 61 #[.slice A zs.length cap] w fun e w' => e = .returned (.slice (some ⟨w.heap.size, 0, none⟩) zs.length zs.length) ∧ w' = w.alloc (.cells (cellsI zs) 3) := by
  have HR := Lib.hid hr
  clear hr
  have hmk := make_ints zs.length (by omega)
  go_enter Try.func61, Try.ntmps61
  go_wp2
  clear hmk
  go_loopw [4] (fun i wr => ∃ j m : Nat, j + m = zs.length ∧ i = .int .i64 j ∧ wr = w.alloc (.cells (cellsI (zs.take j ++ List.replicate m 0)) 3)) (fun i _ => zs.length - (intOf i).toNat)
  case atStart => exact ⟨0, zs.length, by omega, rfl, by simp⟩
  case round =>
    obtain ⟨j, m, hj, rfl, rfl⟩ := hrel
    cases m with
    | zero =>
      obtain rfl : j = zs.length := by omega
      go_wp2
      go_ret
      exact ⟨rfl, by first | rfl | rw [List.take_of_length_le (Nat.le_refl _), List.replicate_zero, List.append_nil]⟩
    | succ m =>
      have hlt : j < zs.length := by omega
      obtain ⟨b, off, rfl, hbB, hc0⟩ := HR.out j hlt
      have hc : ∀ o : Obj, (w.alloc o).cell? ⟨b, off + j, none⟩ = some (.int .i64 zs[j]) := fun o =>
        (World.cell?_of_block (w := w) (Below.heap_alloc w o b (by omega))).trans hc0
      have hcell : (cellsI (zs.take j ++ List.replicate (m + 1) 0))[j]? = some (.int .i64 0) := by
        rw [cellsI_at _ _ (by rw [List.length_append, List.length_take, List.length_replicate]; omega)]
        rw [List.getElem_append_right (by rw [List.length_take]; omega)]
        simp
      have hset : (cellsI (zs.take j ++ List.replicate (m + 1) 0)).setIfInBounds j (.int .i64 zs[j]) = cellsI (zs.take (j + 1) ++ List.replicate m 0) := by
        have h := cellsI_set (zs.take j) (List.replicate m 0) 0 zs[j]
        rw [List.length_take, Nat.min_eq_left (by omega)] at h
        rw [List.replicate_succ, h, List.take_succ_eq_append_getElem hlt, List.append_assoc]; rfl
      have HS := Lib.hid hset
      clear hset hc0
      have hjn : j < zs.length := hlt
      go_wp2
      go_roundw
      case rel => exact ⟨j + 1, m, by omega, by go_num, by rw [HS.out]⟩
      case measure => simp [intOf]; omega

set_option maxRecDepth 100000 in
/-- laws.eqIntS, of two slices that hold the same. -/
theorem eqints (zs : List Int) (A A' : Option Addr) (cap cap' B : Nat) (w : World) (hB : B ≤ w.heap.size) (hr : Ints w B A zs) (hr' : Ints w B A' zs) (hn : zs.length ≤ 1000000000000) :
    Calls Try.prog 70 #[.slice A zs.length cap, .slice A' zs.length cap'] w fun e w' => e = .returned (.bool true) ∧ Below w.heap.size w w' := by
  have HR := Lib.hid hr
  have HR' := Lib.hid hr'
  clear hr hr'
  go_enter Try.func70, Try.ntmps70
  go_wp2
  go_loopw [5] (fun i wr => ∃ j : Nat, j ≤ zs.length ∧ i = .int .i64 j ∧ Below w.heap.size w wr) (fun i _ => zs.length - (intOf i).toNat)
  case atStart => exact ⟨0, Nat.zero_le _, rfl, Below.refl _ _⟩
  case round =>
    obtain ⟨j, hj, rfl, hb⟩ := hrel
    have HB := Lib.hid hb
    clear hb
    by_cases hlt : j < zs.length
    · obtain ⟨b, off, rfl, hbB, hc⟩ := (HR.out.below hB HB.out) j hlt
      obtain ⟨b', off', rfl, hbB', hc'⟩ := (HR'.out.below hB HB.out) j hlt
      go_wp2
      go_quiet (fail)
      go_wp2
      go_roundw
      case rel => exact ⟨j + 1, by omega, by go_num, below_drewN' HB.out _⟩
      case measure => simp [intOf]; omega
    · obtain rfl : j = zs.length := by omega
      go_wp2
      go_ret
      exact ⟨rfl, HB.out⟩
end Go.Proofs.Ytjohbfdifdjldac

namespace Go.Proofs.Ytjohbfdifdjldac
open Go.RowKit Go.Deep Go.Proofs.Ytjohbfdifdjldac.Num

/-- The marks from k on, n of them. -/
def marks (k : Int) : Nat → List Int
  | 0 => []
  | n + 1 => k :: marks (k + 1) n
theorem marks_len (n : Nat) : ∀ k, (marks k n).length = n := by
  induction n with
  | zero => intro k; rfl
  | succ n ih => intro k; simp [marks, ih]
theorem marks_at (n : Nat) : ∀ k j (h : j < (marks k n).length), (marks k n)[j] = k + (j : Int) := by
  induction n with
  | zero => intro k j h; simp [marks] at h
  | succ n ih =>
    intro k j h
    cases j with
    | zero => simp [marks]
    | succ j =>
      have h2 := ih (k + 1) j (by simpa [marks] using h)
      simp only [marks, List.getElem_cons_succ]
      rw [h2]; omega
theorem marks_snoc (n : Nat) : ∀ k, marks k (n + 1) = marks k n ++ [k + (n : Int)] := by
  induction n with
  | zero => intro k; simp [marks]
  | succ n ih =>
    intro k
    show k :: marks (k + 1) (n + 1) = k :: marks (k + 1) n ++ _
    rw [ih]
    simp
    omega

theorem valsI_set (a b : List Int) (c x : Int) : (valsI (a ++ c :: b)).set a.length (.int .i64 x) = valsI (a ++ x :: b) := by
  unfold valsI
  rw [List.map_append, List.map_cons, List.set_append_right _ _ (by simp)]
  simp
/-- One cell of such a slice is written. -/
theorem OwnI.set {w : World} {base g cap : Nat} {a b : List Int} {c : Int} (h : OwnI w base (.slice (some ⟨g, 0, none⟩) (a ++ c :: b).length cap) (a ++ c :: b)) (x : Int) :
    OwnI (w.setCell ⟨g, a.length, none⟩ (.int .i64 x)) base (.slice (some ⟨g, 0, none⟩) (a ++ x :: b).length cap) (a ++ x :: b) := by
  have h1 := (World.ownsRow.stored h a.length (.int .i64 x)).1
  rw [valsI_set] at h1
  unfold OwnI
  rw [show (a ++ x :: b).length = (a ++ c :: b).length from by simp]
  exact h1

set_option maxRecDepth 100000 in
/-- laws.markIntS, on a slice of the call's own. -/
theorem mark (zs : List Int) (base g cap : Nat) (w : World) (ho : OwnI w base (.slice (some ⟨g, 0, none⟩) zs.length cap) zs) (hn : zs.length ≤ 1000000000) :
    Calls Try.prog 72 #[.slice (some ⟨g, 0, none⟩) zs.length cap, .int .i64 1] w fun e w' => e = .returned (.int .i64 (1 + (zs.length : Int))) ∧ OwnI w' base (.slice (some ⟨g, 0, none⟩) (marks 1 zs.length).length cap) (marks 1 zs.length) ∧ Below base w w' := by
  have HO := Lib.hid ho
  have hbg : base ≤ g := (World.ownsRow.lt ho g rfl).1
  clear ho
  go_enter Try.func72, Try.ntmps72
  go_wp2
  go_loopw [1, 5] (fun k i wr => ∃ (j : Nat) (r : List Int), j + r.length = zs.length ∧ i = .int .i64 j ∧ k = .int .i64 (1 + (j : Int)) ∧ OwnI wr base (.slice (some ⟨g, 0, none⟩) (marks 1 j ++ r).length cap) (marks 1 j ++ r) ∧ Below base w wr) (fun _ i _ => zs.length - (intOf i).toNat)
  case atStart => exact ⟨0, zs, by omega, rfl, rfl, by simpa [marks] using HO.out, Below.refl _ _⟩
  case round =>
    obtain ⟨j, r, hj, rfl, rfl, hown, hb⟩ := hrel
    have HW := Lib.hid hown
    have HB := Lib.hid hb
    cases r with
    | nil =>
      obtain rfl : j = zs.length := by simpa using hj
      clear hown hb
      go_wp2
      go_ret
      exact ⟨rfl, by simpa using HW.out, HB.out⟩
    | cons c r =>
      have hlt : j < zs.length := by rw [List.length_cons] at hj; omega
      have hml : (marks 1 j).length = j := marks_len j 1
      have hll : (marks 1 j ++ c :: r).length = zs.length := by rw [List.length_append, hml, hj]
      rw [hll] at hown
      have hall := hll
      have hc : ∃ u, wr.cell? ⟨g, j, none⟩ = some u := by
        have h0 := World.ownsRow.cellAt (hall ▸ hown) j (by rw [hall]; omega)
        exact ⟨_, h0.trans (by rw [List.getElem?_eq_getElem (by rw [valsI_len, hall]; omega)])⟩
      obtain ⟨u, hc⟩ := hc
      have hfz : wr.frozen? ⟨g, j, none⟩ = false := World.ownsRow.frozenAt (hall ▸ hown) j
      have HS := Lib.hid (HW.out.set (1 + (j : Int)))
      rw [hml] at HS
      have HM := Lib.hid (marks_snoc j 1)
      clear hown hb hall hll
      go_wp2
      go_roundw
      case rel => exact ⟨j + 1, r, by rw [List.length_cons] at hj; omega, by go_num, by go_num, by rw [HM.out, List.append_assoc]; exact HS.out, HB.out.setCell (p := ⟨g, j, none⟩) hbg _⟩
      case measure => simp [intOf]; omega

set_option maxRecDepth 100000 in
/-- laws.markIntS, on no slice. -/
theorem mark_nil (w : World) :
    Calls Try.prog 72 #[.slice none 0 0, .int .i64 1] w fun e w' => e = .returned (.int .i64 1) ∧ w' = w := by
  go_enter Try.func72, Try.ntmps72
  go_wp2
  go_loop [1, 5] (fun k i => i = .int .i64 0 ∧ k = .int .i64 1) (fun _ i => (intOf i).toNat)
  case atStart => exact ⟨rfl, rfl⟩
  case round =>
    obtain ⟨rfl, rfl⟩ := hrel
    go_wp2
    go_ret
    exact ⟨rfl, rfl⟩

set_option maxRecDepth 100000 in
/-- laws.heldIntS, of a slice that holds the marks. -/
theorem held (n : Nat) (A : Option Addr) (cap B : Nat) (w : World) (hr : Ints w B A (marks 1 n)) (hn : n ≤ 1000000000) :
    Calls Try.prog 73 #[.slice A n cap, .int .i64 1] w fun e w' => e = .returned (.int .i64 (1 + (n : Int))) ∧ w' = w := by
  have HR := Lib.hid hr
  clear hr
  go_enter Try.func73, Try.ntmps73
  go_wp2
  go_loop [1, 5] (fun k i => ∃ j : Nat, j ≤ n ∧ i = .int .i64 j ∧ k = .int .i64 (1 + (j : Int))) (fun _ i => n - (intOf i).toNat)
  case atStart => exact ⟨0, Nat.zero_le _, rfl, rfl⟩
  case round =>
    obtain ⟨j, hj, rfl, rfl⟩ := hrel
    by_cases hlt : j < n
    · obtain ⟨b, off, rfl, hbB, hc⟩ := HR.out j (by rw [marks_len]; exact hlt)
      rw [marks_at] at hc
      go_wp2
      go_round
      case rel => exact ⟨j + 1, by omega, by go_num, by go_num⟩
      case measure => simp [intOf]; omega
    · obtain rfl : j = n := by omega
      go_wp2
      go_ret
      exact ⟨rfl, rfl⟩
end Go.Proofs.Ytjohbfdifdjldac

namespace Go.Proofs.Ytjohbfdifdjldac
open Go.RowKit Go.Deep Go.Proofs.Ytjohbfdifdjldac.Num

set_option maxRecDepth 100000 in
/-- laws.markIntS, on a stretch of ints of the call's own. -/
theorem markK (zs : List Int) (base g off n cap : Nat) (w : World) (hzn : zs.length = n) (ho : MidI w base g off zs) (hn : n ≤ 10000000) :
    Calls Try.prog 72 #[.slice (some ⟨g, off, none⟩) n cap, .int .i64 1] w fun e w' => e = .returned (.int .i64 (1 + (n : Int))) ∧ MidI w' base g off (marks 1 n) ∧ Below base w w' ∧ w.grownBy w' (some g) := by
  have HO := Lib.hid ho
  have hbg : base ≤ g := ho.ge.1
  clear ho
  go_enter Try.func72, Try.ntmps72
  go_wp2
  go_loopw [1, 5] (fun k i wr => ∃ (j : Nat) (r : List Int), j + r.length = n ∧ i = .int .i64 j ∧ k = .int .i64 (1 + (j : Int)) ∧ MidI wr base g off (marks 1 j ++ r) ∧ Below base w wr ∧ w.grownBy wr (some g)) (fun _ i _ => n - (intOf i).toNat)
  case atStart => exact ⟨0, zs, by omega, rfl, rfl, by simpa [marks] using HO.out, Below.refl _ _, only_reflI _ _⟩
  case round =>
    obtain ⟨j, r, hj, rfl, rfl, hown, hb, hgb⟩ := hrel
    have HW := Lib.hid hown
    have HB := Lib.hid hb
    have HG := Lib.hid hgb
    clear hgb
    cases r with
    | nil =>
      obtain rfl : j = n := by simpa using hj
      clear hown hb
      go_wp2
      go_ret
      exact ⟨rfl, by simpa using HW.out, HB.out, HG.out⟩
    | cons c r =>
      have hlt : j < n := by rw [List.length_cons] at hj; omega
      have hml : (marks 1 j).length = j := marks_len j 1
      have hll : (marks 1 j ++ c :: r).length = n := by rw [List.length_append, hml, hj]
      have hjl : j < (marks 1 j ++ c :: r).length := by omega
      have hc := hown.cell j hjl
      generalize (marks 1 j ++ c :: r)[j] = u at hc
      have hfz : wr.frozen? ⟨g, off + j, none⟩ = false := hown.free (off + j)
      have hst := hown.store j hjl (1 + (j : Int))
      rw [show (marks 1 j ++ c :: r).set j (1 + (j : Int)) = marks 1 (j + 1) ++ r by rw [marks_snoc, List.append_assoc, List.set_append_right _ _ (by omega), hml, Nat.sub_self]; rfl] at hst
      have HS := Lib.hid hst
      clear hown hb hll hst hjl HW
      go_wp2
      go_roundw
      case rel => exact ⟨j + 1, r, by rw [List.length_cons] at hj; omega, by go_num, by go_num, HS.out, HB.out.setCell (p := ⟨g, off + j, none⟩) hbg _, only_moreI HG.out _ _⟩
      case measure => simp [intOf]; omega

/-- laws.markIntS, on a slice of the call's own. -/
theorem markO (zs : List Int) (v : Value) (base : Nat) (w : World) (ho : OwnK w base v zs) (hn : zs.length ≤ 10000000) :
    Calls Try.prog 72 #[v, .int .i64 1] w fun e w' => e = .returned (.int .i64 (1 + (zs.length : Int))) ∧ OwnK w' base v (marks 1 zs.length) ∧ Below base w w' ∧ w.grownBy w' v.ownBlock := by
  rcases ho with ⟨rfl, rfl⟩ | ⟨g, off, cap, rfl, hle, h⟩
  · refine (mark_nil w).mono ?_
    rintro e w' ⟨rfl, rfl⟩
    exact ⟨rfl, .inl ⟨rfl, rfl⟩, Below.refl _ _, only_reflI _ _⟩
  · refine (markK zs base g off zs.length cap w rfl h hn).mono ?_
    rintro e w' ⟨rfl, h1, h2, h3⟩
    exact ⟨rfl, .inr ⟨g, off, cap, by rw [marks_len], by rw [marks_len]; exact hle, h1⟩, h2, h3⟩
/-- What laws.szIntS returns. -/
def szI (N : Int) (zs : List Int) : Int := if N < (zs.length : Int) then -1 else N - zs.length
theorem szI_low (N : Int) (zs : List Int) (hN : N ≤ 1048576) : -1 ≤ szI N zs ∧ szI N zs ≤ 1048576 := by
  unfold szI
  split <;> omega
theorem szI_ok {N : Int} {zs : List Int} (hN : N ≤ 1048576) (h : 0 ≤ szI N zs) : zs.length ≤ 1048576 := by
  unfold szI at h
  split at h <;> omega
set_option maxRecDepth 100000 in
/-- laws.szIntS -/
theorem lszi (N : Int) (hN0 : 0 ≤ N) (hN1 : N ≤ 1048576) (zs : List Int) (A : Option Addr) (cap : Nat) (w : World) (hn : zs.length ≤ 9223372036854775807) :
    Calls Try.prog 52 #[.slice A zs.length cap, .int .i64 N] w fun e w' => e = .returned (.int .i64 (szI N zs)) ∧ w' = w := by
  obtain ⟨q, hq⟩ : ∃ q, N - (zs.length : Int) = q := ⟨_, rfl⟩
  have hw : wrap64 (N - (zs.length : Int)) = q := by rw [← hq]; unfold wrap64; omega
  by_cases h : N < (zs.length : Int)
  · have hv : szI N zs = -1 := if_pos h
    have hd : decide (q < 0) = true := decide_eq_true (by omega)
    rw [hv]
    clear hN0 hN1 hn h hv hq
    go_enter Try.func52, Try.ntmps52
    go_wp2
    go_ret
    exact ⟨rfl, rfl⟩
  · have hv : szI N zs = q := (if_neg h).trans hq
    have hd : decide (q < 0) = false := decide_eq_false (by omega)
    rw [hv]
    clear hN0 hN1 hn h hv hq
    go_enter Try.func52, Try.ntmps52
    go_wp2
    go_ret
    exact ⟨congrArg (fun z => Ending.returned (.int .i64 z)) hw, rfl⟩
end Go.Proofs.Ytjohbfdifdjldac

namespace Go.Proofs.Ytjohbfdifdjldac
open Go.RowKit Go.Deep Go.Proofs.Ytjohbfdifdjldac.Num

theorem bne_int (x : Int) : (x != x) = false := by simp
theorem bne_bool (x : Bool) : (x != x) = false := by cases x <;> rfl
set_option maxRecDepth 100000 in
/-- laws.szRing -/
theorem lszn (N : Int) (hN0 : 0 ≤ N) (hN1 : N ≤ 1048576) (r : Rn) (A : Option Addr) (cap B : Nat) (w : World) (_hB : B ≤ w.heap.size) (_hr : Ints w B A r.cs) (hn : r.cs.length ≤ 9223372036854775807) :
    Calls Try.prog 22 #[rnV r (.slice A r.cs.length cap), .int .i64 N] w fun e w' => e = .returned (.int .i64 (szI N r.cs)) ∧ Below w.heap.size w w' := by
  have HZ := Lib.hid fun W => lszi N hN0 hN1 r.cs A cap W hn
  have hlow := (szI_low N r.cs hN1).1
  have HB0 := Lib.hid ((Below.refl w.heap.size w).alloc (Nat.le_refl _) (.cells (rnC r.size r.base r.en (.slice A r.cs.length cap)) 24))
  generalize szI N r.cs = m at *
  clear hn hN0 hN1
  by_cases h : m < 0
  · obtain rfl : m = -1 := by omega
    clear h hlow
    go_enter Try.func22, Try.ntmps22
    go_wp2_with fail
    refine (HZ.out _).mono ?_
    rintro e w1 ⟨rfl, rfl⟩
    go_wp2
    go_ret
    exact ⟨rfl, HB0.out⟩
  · have hd : decide (m < 0) = false := decide_eq_false h
    clear h hlow
    go_enter Try.func22, Try.ntmps22
    go_wp2_with fail
    refine (HZ.out _).mono ?_
    rintro e w1 ⟨rfl, rfl⟩
    go_wp2
    go_ret
    exact ⟨rfl, HB0.out⟩

set_option maxRecDepth 100000 in
/-- laws.eqRing, of two rings that hold the same. -/
theorem eqrn (r : Rn) (A A' : Option Addr) (cap cap' B : Nat) (w : World) (hB : B ≤ w.heap.size) (hr : Ints w B A r.cs) (hr' : Ints w B A' r.cs) (hn : r.cs.length ≤ 1000000000) :
    Calls Try.prog 40 #[rnV r (.slice A r.cs.length cap), rnV r (.slice A' r.cs.length cap')] w fun e w' => e = .returned (.bool true) ∧ Below w.heap.size w w' := by
  obtain ⟨s, b, e, l⟩ := r
  dsimp only at *
  have HE : Hid (∀ W, w.heap.size ≤ W.heap.size → Below w.heap.size w W → Calls Try.prog 70 #[.slice A l.length cap, .slice A' l.length cap'] W fun e w' => e = .returned (.bool true) ∧ Below W.heap.size W w') := Lib.hid fun W h1 h2 => eqints l A A' cap cap' B W (Nat.le_trans hB h1) (hr.below hB h2) (hr'.below hB h2) (by omega)
  have HB0 := Lib.hid (((Below.refl w.heap.size w).alloc (Nat.le_refl _) (.cells (rnC s b e (.slice A l.length cap)) 32)).alloc (by simp) (.cells (rnC s b e (.slice A' l.length cap')) 32))
  have e1 := bne_int s
  have e2 := bne_int b
  have e3 := bne_int e
  clear hr hr'
  go_enter Try.func40, Try.ntmps40
  go_wp2_with fail
  refine (HE.out _ HB0.out.size HB0.out).mono ?_
  rintro e w3 ⟨rfl, hb3⟩
  have HB3 := Lib.hid (HB0.out.trans (hb3.mono HB0.out.size))
  clear hb3
  go_wp2
  go_ret
  exact ⟨rfl, HB3.out⟩

set_option maxRecDepth 100000 in
/-- laws.markRing, on a ring of the call's own. -/
theorem markrn (r : Rn) (v : Value) (base : Nat) (w : World) (ho : OwnK w base v r.cs) (hbs : base ≤ w.heap.size) (hn : r.cs.length ≤ 10000000) :
    Calls Try.prog 42 #[rnV r v, .int .i64 1] w fun e w' => e = .returned (.int .i64 (1 + (r.cs.length : Int))) ∧ OwnK w' base v (marks 1 r.cs.length) ∧ Below base w w' ∧ w.grownBy w' v.ownBlock := by
  have HB0 := Lib.hid ((Below.refl base w).alloc hbs (.cells (rnC r.size r.base r.en v) 32))
  have HO := Lib.hid (markO r.cs v base _ (ho.alloc (.cells (rnC r.size r.base r.en v) 32)) hn)
  obtain ⟨A, c, rfl, _, _⟩ := ho.frs
  clear ho
  go_enter Try.func42, Try.ntmps42
  go_wp2_with fail
  refine HO.out.mono ?_
  rintro e w1 ⟨rfl, ho1, hb1, hg1⟩
  have HB1 := Lib.hid (HB0.out.trans hb1)
  have HG1 := Lib.hid (only_firstI hg1)
  have HO1 := Lib.hid ho1
  clear hb1 ho1 hg1 HO
  go_wp2
  go_ret
  exact ⟨rfl, HO1.out, HB1.out, HG1.out⟩

set_option maxRecDepth 100000 in
/-- laws.heldRing, of a ring that holds the marks. -/
theorem heldrn (r : Rn) (k : Nat) (A : Option Addr) (cap B : Nat) (w : World) (hB : B ≤ w.heap.size) (hr : Ints w B A (marks 1 k)) (hn : k ≤ 10000000) :
    Calls Try.prog 44 #[rnV r (.slice A k cap), .int .i64 1] w fun e w' => e = .returned (.int .i64 (1 + (k : Int))) ∧ Below w.heap.size w w' := by
  have HB0 := Lib.hid ((Below.refl w.heap.size w).alloc (Nat.le_refl _) (.cells (rnC r.size r.base r.en (.slice A k cap)) 32))
  have HO := Lib.hid (held k A cap B (w.alloc (.cells (rnC r.size r.base r.en (.slice A k cap)) 32)) (hr.below hB HB0.out) (by omega))
  obtain ⟨m, hm⟩ : ∃ m : Int, 1 + (k : Int) = m := ⟨_, rfl⟩
  have hd : decide (m < 0) = false := decide_eq_false (by omega)
  rw [hm] at HO
  rw [hm]
  clear hr hm
  go_enter Try.func44, Try.ntmps44
  go_wp2_with fail
  refine HO.out.mono ?_
  rintro e w1 ⟨rfl, rfl⟩
  go_wp2
  go_ret
  exact ⟨rfl, HB0.out⟩

set_option maxRecDepth 100000 in
set_option maxHeartbeats 1000000 in
/-- laws.toRing: a copy, in new blocks. -/
theorem torn (r : Rn) (A : Option Addr) (cap B : Nat) (w : World) (hB : B ≤ w.heap.size) (hr : Ints w B A r.cs) (hn : r.cs.length ≤ 1048576) :
    Calls Try.prog 32 #[rnV r (.slice A r.cs.length cap)] w fun e w' => ∃ g, e = .returned (rnV r (.slice (some ⟨g, 0, none⟩) r.cs.length r.cs.length)) ∧ OwnK w' w.heap.size (.slice (some ⟨g, 0, none⟩) r.cs.length r.cs.length) r.cs ∧ Below w.heap.size w w' := by
  obtain ⟨s, b, e, l⟩ := r
  dsimp only at *
  have HR := Lib.hid hr
  clear hr
  have HT : Hid (∀ W, w.heap.size ≤ W.heap.size → Below w.heap.size w W → Calls Try.prog 61 #[.slice A l.length cap] W fun e w' => e = .returned (.slice (some ⟨W.heap.size, 0, none⟩) l.length l.length) ∧ w' = W.alloc (.cells (cellsI l) 3)) := Lib.hid fun W h1 h2 => toints l A cap B W (Nat.le_trans hB h1) (HR.out.below hB h2) hn
  have s1 : ∀ o1, (w.alloc o1).heap.size = w.heap.size + 1 := fun _ => by simp
  have s2 : ∀ o1 o2, ((w.alloc o1).alloc o2).heap.size = w.heap.size + 2 := fun _ _ => by simp
  have s3 : ∀ o1 o2 o3, (((w.alloc o1).alloc o2).alloc o3).heap.size = w.heap.size + 3 := fun _ _ _ => by simp
  have HB3 := Lib.hid ((((Below.refl w.heap.size w).alloc (Nat.le_refl _) (.cells (rnC s b e (.slice A l.length cap)) 24)).alloc (by simp) (.cells (rnC 0 0 0 (.slice none 0 0)) 32)).alloc (by simp; omega) (.cells (rnC s b e (.slice none 0 0)) 32))
  have X0 := ((Cell4.new w s b e (.slice A l.length cap) 24).below ((Below.refl (w.heap.size + 1) _).alloc (by simp) (.cells (rnC 0 0 0 (.slice none 0 0)) 32)) (Nat.lt_succ_self _)).below ((Below.refl (w.heap.size + 1) _).alloc (by simp) (.cells (rnC s b e (.slice none 0 0)) 32)) (Nat.lt_succ_self _)
  have X1 := ((BoxN.new (w.alloc (.cells (rnC s b e (.slice A l.length cap)) 24)) 0 0 0 (.slice none 0 0)).alloc (.cells (rnC s b e (.slice none 0 0)) 32))
  have X2 := BoxN.new ((w.alloc (.cells (rnC s b e (.slice A l.length cap)) 24)).alloc (.cells (rnC 0 0 0 (.slice none 0 0)) 32)) s b e (.slice none 0 0)
  rw [s1] at X1
  rw [s2] at X2
  have HX0 := Lib.hid X0
  have HX := Lib.hid (And.intro X1 X2)
  have HS := Lib.hid (s3 (.cells (rnC s b e (.slice A l.length cap)) 24) (.cells (rnC 0 0 0 (.slice none 0 0)) 32) (.cells (rnC s b e (.slice none 0 0)) 32))
  clear X0 X1 X2 s1 s2 s3
  go_enter Try.func32, Try.ntmps32
  go_wp2_with fail
  generalize (((w.alloc (.cells (rnC s b e (.slice A l.length cap)) 24)).alloc (.cells (rnC 0 0 0 (.slice none 0 0)) 32)).alloc (.cells (rnC s b e (.slice none 0 0)) 32)) = w3 at *
  refine (HT.out w3 HB3.out.size HB3.out).mono ?_
  rw [HS.out]
  rintro e w4 ⟨rfl, rfl⟩
  have hs3 : w3.heap.size = w.heap.size + 3 := HS.out
  have HO : Hid (OwnK (w3.alloc (.cells (cellsI l) 3)) (w.heap.size + 3) (.slice (some ⟨w.heap.size + 3, 0, none⟩) l.length l.length) l) := Lib.hid (OwnK.row (Nat.le_refl _) 3 (by rw [← hs3]; exact heap_alloc_new w3 _) (Nat.le_refl _))
  have HB4 := Lib.hid (HB3.out.alloc HB3.out.size (.cells (cellsI l) 3))
  have HY := Lib.hid (And.intro (HX.out.1.alloc (.cells (cellsI l) 3)) (HX.out.2.alloc (.cells (cellsI l) 3)))
  generalize w3.alloc (.cells (cellsI l) 3) = w4 at *
  obtain ⟨q0, q1, q2, q3⟩ := HY.out.1.cells
  obtain ⟨p0, p1, p2, p3⟩ := HY.out.2.cells
  have f1 := HY.out.1.free
  have f2 := HY.out.2.free
  clear HT HR HX HX0 HB3 hs3 HS
  go_wp2
  refine bodyPost_ret (results_cell_row rfl _ _ (w.heap.size + 1) _ _ _ _ rfl (((((HY.out.1.other (w.heap.size + 1 + 1) 3 _ (by omega)).set0 s).set1 b).set2 e).set3 _) Try.underlying32 rfl (by kernel_rfl)) rfl ?_
  have hq : w.heap.size ≤ w.heap.size + 1 := Nat.le_succ _
  have hq2 : w.heap.size ≤ w.heap.size + 1 + 1 := by omega
  exact ⟨w.heap.size + 3, rfl, (((((HO.out.apart (w.heap.size + 1 + 1) 3 _ (by omega)).apart (w.heap.size + 1) 0 _ (by omega)).apart (w.heap.size + 1) 1 _ (by omega)).apart (w.heap.size + 1) 2 _ (by omega)).apart (w.heap.size + 1) 3 _ (by omega)).weaken (by omega), ((((HB4.out.setCell (p := ⟨_, _, _⟩) hq2 _).setCell (p := ⟨_, _, _⟩) hq _).setCell (p := ⟨_, _, _⟩) hq _).setCell (p := ⟨_, _, _⟩) hq _).setCell (p := ⟨_, _, _⟩) hq _⟩

/-- laws.toRing of the ring that came in. -/
theorem InRn.to {w0 : World} {g : Nat} {r : Rn} {A : Option Addr} {cap : Nat} {W : World} (h : InRn w0 g r A cap W) (hn : r.cs.length ≤ 1048576) :
    Calls Try.prog 32 #[rnV r (.slice A r.cs.length cap)] W fun e w' => ∃ g, e = .returned (rnV r (.slice (some ⟨g, 0, none⟩) r.cs.length r.cs.length)) ∧ OwnK w' W.heap.size (.slice (some ⟨g, 0, none⟩) r.cs.length r.cs.length) r.cs ∧ Below W.heap.size W w' :=
  torn r A cap g W (Nat.le_of_lt h.2.2.1) h.2.1 hn
/-- laws.eqRing of two variables that hold the same. -/
theorem eqvn (r : Rn) (A A' : Option Addr) (cap cap' B B' : Nat) (W : World) (h : OwnK W B (.slice A r.cs.length cap) r.cs) (h' : OwnK W B' (.slice A' r.cs.length cap') r.cs) (hn : r.cs.length ≤ 1000000000) :
    Calls Try.prog 40 #[rnV r (.slice A r.cs.length cap), rnV r (.slice A' r.cs.length cap')] W fun e w' => e = .returned (.bool true) ∧ Below W.heap.size W w' :=
  eqrn r A A' cap cap' W.heap.size W (Nat.le_refl _) h.chs h'.chs hn
end Go.Proofs.Ytjohbfdifdjldac

namespace Go.Proofs.Ytjohbfdifdjldac
open Go.RowKit Go.Deep Go.Proofs.Ytjohbfdifdjldac.Num

theorem rg_third (w : World) (o1 o2 o3 : Obj) : (((w.alloc o1).alloc o2).alloc o3).heap[w.heap.size + 1]? = some o2 := by
  have h : (w.alloc o1).heap.size = w.heap.size + 1 := by simp
  rw [← h]
  exact (Below.heap_alloc _ _ _ (by simp)).trans (heap_alloc_new _ _)

/-- laws.eqRange -/
theorem eqrange (x y : Rg) (w : World) :
    Calls Try.prog 71 #[rgV x, rgV y] w fun e w' => e = .returned (.bool (decide (x = y))) ∧ Below w.heap.size w w' := by
  have hb := (((Below.refl w.heap.size w).alloc (Nat.le_refl _) (.cells #[.int .i64 x.1, .int .i64 x.2] 56)).alloc (by simp) (.cells #[.int .i64 y.1, .int .i64 y.2] 56))
  by_cases h1 : x.1 = y.1
  · have hd1 : (x.1 == y.1) = true := by simpa using h1
    by_cases h2 : x.2 = y.2
    · have hd2 : (x.2 == y.2) = true := by simpa using h2
      rw [decide_eq_true (Prod.ext h1 h2)]
      clear h1 h2
      go_enter Try.func71, Try.ntmps71
      go_wp2
      go_ret
      exact ⟨rfl, hb⟩
    · have hd2 : (x.2 == y.2) = false := by simpa using h2
      rw [decide_eq_false (fun h => h2 (by rw [h]))]
      clear h1 h2
      go_enter Try.func71, Try.ntmps71
      go_wp2
      go_ret
      exact ⟨rfl, hb⟩
  · have hd1 : (x.1 == y.1) = false := by simpa using h1
    rw [decide_eq_false (fun h => h1 (by rw [h]))]
    clear h1
    go_enter Try.func71, Try.ntmps71
    go_wp2
    go_ret
    exact ⟨rfl, hb⟩

/-- A row of n ranges in block g, the call's own. -/
def RowR (w : World) (base g n cap : Nat) (l : List Rg) : Prop := l.length = n ∧ w.ownsRow base 56 2 (.slice (some ⟨g, 0, none⟩) n cap) n (valsR l)
theorem RowR.own {w : World} {base g n cap : Nat} {l : List Rg} (h : RowR w base g n cap l) : OwnR w base (.slice (some ⟨g, 0, none⟩) n cap) l := by
  obtain ⟨rfl, h⟩ := h
  exact h
theorem OwnR.row {w : World} {base g cap : Nat} {l : List Rg} (h : OwnR w base (.slice (some ⟨g, 0, none⟩) l.length cap) l) : RowR w base g l.length cap l := ⟨rfl, h⟩
theorem RowR.ge {w : World} {base g n cap : Nat} {l : List Rg} (h : RowR w base g n cap l) : base ≤ g ∧ g < w.heap.size := World.ownsRow.lt h.2 g rfl
theorem RowR.cells {w : World} {base g n cap : Nat} {l : List Rg} (h : RowR w base g n cap l) (j : Nat) (hj : j < l.length) : w.cell? ⟨g, j * 2, none⟩ = some (.int .i64 l[j].1) ∧ w.cell? ⟨g, j * 2 + 1, none⟩ = some (.int .i64 l[j].2) := by
  have hn := h.1
  exact ⟨(World.ownsRow.cellAt h.2 (j * 2) (by omega)).trans (valsR_at l j hj).1, (World.ownsRow.cellAt h.2 (j * 2 + 1) (by omega)).trans (valsR_at l j hj).2⟩
theorem RowR.rgs {w : World} {base g n cap : Nat} {l : List Rg} (h : RowR w base g n cap l) : Rgs w w.heap.size (some ⟨g, 0, none⟩) l := fun j hj =>
  ⟨g, 0, rfl, h.ge.2, by rw [Nat.zero_add]; exact (h.cells j hj).1, by rw [Nat.zero_add]; exact (h.cells j hj).2⟩
theorem RowR.free {w : World} {base g n cap : Nat} {l : List Rg} (h : RowR w base g n cap l) (k : Nat) : w.frozen? ⟨g, k, none⟩ = false := World.ownsRow.frozenAt h.2 k
theorem RowR.later {w w' : World} {base g n cap : Nat} {l : List Rg} (h : RowR w base g n cap l) (hb : Below w.heap.size w w') : RowR w' base g n cap l := ⟨h.1, owns_later h.2 hb⟩
theorem RowR.alloc {w : World} {base g n cap : Nat} {l : List Rg} (h : RowR w base g n cap l) (o : Obj) : RowR (w.alloc o) base g n cap l := ⟨h.1, World.ownsRow.alloc h.2 o⟩
theorem valsR_set0 (l : List Rg) : ∀ j (h : j < l.length) (a : Int), (valsR l).set (j * 2) (.int .i64 a) = valsR (l.set j (a, l[j].2)) := by
  induction l with
  | nil => intro j h; cases h
  | cons x l ih =>
    intro j h a
    cases j with
    | zero => rfl
    | succ j =>
      have := ih j (by simpa using h) a
      rw [show (j + 1) * 2 = j * 2 + 1 + 1 from by omega]
      show Value.int .i64 x.1 :: Value.int .i64 x.2 :: (valsR l).set (j * 2) (.int .i64 a) = _
      rw [this]
      rfl
theorem valsR_set1 (l : List Rg) : ∀ j (h : j < l.length) (b : Int), (valsR l).set (j * 2 + 1) (.int .i64 b) = valsR (l.set j (l[j].1, b)) := by
  induction l with
  | nil => intro j h; cases h
  | cons x l ih =>
    intro j h a
    cases j with
    | zero => rfl
    | succ j =>
      have := ih j (by simpa using h) a
      rw [show (j + 1) * 2 + 1 = j * 2 + 1 + 1 + 1 from by omega]
      show Value.int .i64 x.1 :: Value.int .i64 x.2 :: (valsR l).set (j * 2 + 1) (.int .i64 a) = _
      rw [this]
      rfl
theorem RowR.store0 {w : World} {base g n cap : Nat} {l : List Rg} (h : RowR w base g n cap l) (j : Nat) (hj : j < l.length) (a : Int) : RowR (w.setCell ⟨g, j * 2, none⟩ (.int .i64 a)) base g n cap (l.set j (a, l[j].2)) := by
  refine ⟨by simpa using h.1, ?_⟩
  rw [← valsR_set0 l j hj a]
  exact (World.ownsRow.stored h.2 (j * 2) (.int .i64 a)).1
theorem RowR.store1 {w : World} {base g n cap : Nat} {l : List Rg} (h : RowR w base g n cap l) (j : Nat) (hj : j < l.length) (b : Int) : RowR (w.setCell ⟨g, j * 2 + 1, none⟩ (.int .i64 b)) base g n cap (l.set j (l[j].1, b)) := by
  refine ⟨by simpa using h.1, ?_⟩
  rw [← valsR_set1 l j hj b]
  exact (World.ownsRow.stored h.2 (j * 2 + 1) (.int .i64 b)).1
theorem RowR.store {w : World} {base g n cap : Nat} {l : List Rg} (h : RowR w base g n cap l) (j : Nat) (hj : j < l.length) (a b : Int) : RowR ((w.setCell ⟨g, j * 2, none⟩ (.int .i64 a)).setCell ⟨g, j * 2 + 1, none⟩ (.int .i64 b)) base g n cap (l.set j (a, b)) := by
  have h1 := (h.store0 j hj a).store1 j (by simpa using hj) b
  simpa using h1
theorem set_take {l m : List Rg} {j : Nat} (hl : m.length = l.length) (h : m.take j = l.take j) (hj : j < l.length) (x : Rg) (hx : l[j] = x) : (m.set j x).take (j + 1) = l.take (j + 1) := by
  rw [List.take_succ_eq_append_getElem hj, List.take_succ_eq_append_getElem (by simpa [hl] using hj), hx]
  have e : (m.set j x).take j = l.take j := by rw [List.take_set, List.set_eq_of_length_le (by rw [List.length_take]; omega), h]
  rw [e]
  simp
set_option maxRecDepth 100000 in
/-- laws.eqRangeS, of two slices that hold the same. -/
theorem eqranges (l : List Rg) (A A' : Option Addr) (cap cap' B : Nat) (w : World) (hB : B ≤ w.heap.size) (hr : Rgs w B A l) (hr' : Rgs w B A' l) (hn : l.length ≤ 1000000000000) :
    Calls Try.prog 41 #[.slice A l.length cap, .slice A' l.length cap'] w fun e w' => e = .returned (.bool true) ∧ Below w.heap.size w w' := by
  have HR := Lib.hid hr
  have HR' := Lib.hid hr'
  clear hr hr'
  go_enter Try.func41, Try.ntmps41
  go_wp2
  go_loopw [5] (fun i wr => ∃ j : Nat, j ≤ l.length ∧ i = .int .i64 j ∧ Below w.heap.size w wr) (fun i _ => l.length - (intOf i).toNat)
  case atStart => exact ⟨0, Nat.zero_le _, rfl, Below.refl _ _⟩
  case round =>
    obtain ⟨j, hj, rfl, hb⟩ := hrel
    have HB := Lib.hid hb
    clear hb
    by_cases hlt : j < l.length
    · obtain ⟨b, off, rfl, hbB, c1, c2⟩ := (HR.out.below hB HB.out) j hlt
      obtain ⟨b', off', rfl, hbB', d1, d2⟩ := (HR'.out.below hB HB.out) j hlt
      generalize l[j] = x at *
      have HQ := Lib.hid (eqrange x x)
      rw [decide_eq_true rfl] at HQ
      have hwr : w.heap.size ≤ wr.heap.size := HB.out.size
      have hS : ∀ W, Below w.heap.size wr W → W.cell? ⟨b, off + j * 2, none⟩ = some (.int .i64 x.1) ∧ W.cell? ⟨b, off + j * 2 + 1, none⟩ = some (.int .i64 x.2) ∧ W.cell? ⟨b', off' + j * 2, none⟩ = some (.int .i64 x.1) ∧ W.cell? ⟨b', off' + j * 2 + 1, none⟩ = some (.int .i64 x.2) := fun W h =>
        ⟨(h.cell (by show b < _; omega)).trans c1, (h.cell (by show b < _; omega)).trans c2, (h.cell (by show b' < _; omega)).trans d1, (h.cell (by show b' < _; omega)).trans d2⟩
      go_wp2
      go_region_held3 (fun W => W.cell? ⟨b, off + j * 2, none⟩ = some (.int .i64 x.1) ∧ W.cell? ⟨b, off + j * 2 + 1, none⟩ = some (.int .i64 x.2) ∧ W.cell? ⟨b', off' + j * 2, none⟩ = some (.int .i64 x.1) ∧ W.cell? ⟨b', off' + j * 2 + 1, none⟩ = some (.int .i64 x.2)) (first | exact hS _ (Below.refl _ _).drew | exact hS1) (first | (go_at_call 71; refine (HQ.out _).mono ?_; rintro e w1 ⟨rfl, hb1⟩; have HB1 := Lib.hid (HB.out.drew.trans (hb1.mono hwr)); have hS1 := hS w1 ((Below.refl _ _).drew.trans (hb1.mono hwr)); clear hb1))
      all_goals go_wp2
      all_goals go_roundw
      case rel => exact ⟨j + 1, by omega, by go_num, HB1.out⟩
      case measure => simp [intOf]; omega
    · obtain rfl : j = l.length := by omega
      go_wp2
      go_ret
      exact ⟨rfl, HB.out⟩

/-- A slice of ranges without its first one. -/
theorem Rgs.tail {w : World} {B b off : Nat} {x : Rg} {l : List Rg} (h : Rgs w B (some ⟨b, off, none⟩) (x :: l)) : Rgs w B (some ⟨b, off + 2, none⟩) l := by
  intro j hj
  obtain ⟨b', off', hA, hlt, h1, h2⟩ := h (j + 1) (by simpa using hj)
  injection hA with hA
  injection hA with e1 e2 _
  subst e1
  subst e2
  refine ⟨b, off + 2, rfl, hlt, ?_, ?_⟩
  · rw [show off + 2 + j * 2 = off + (j + 1) * 2 from by omega]
    simpa using h1
  · rw [show off + 2 + j * 2 + 1 = off + (j + 1) * 2 + 1 from by omega]
    simpa using h2
theorem Rgs.head {w : World} {B : Nat} {A : Option Addr} {x : Rg} {l : List Rg} (h : Rgs w B A (x :: l)) : ∃ b off, A = some ⟨b, off, none⟩ ∧ b < B ∧ w.cell? ⟨b, off, none⟩ = some (.int .i64 x.1) ∧ w.cell? ⟨b, off + 1, none⟩ = some (.int .i64 x.2) := by
  obtain ⟨b, off, hA, hlt, h1, h2⟩ := h 0 (by simp)
  exact ⟨b, off, hA, hlt, by simpa using h1, by simpa using h2⟩
end Go.Proofs.Ytjohbfdifdjldac

namespace Go.Proofs.Ytjohbfdifdjldac
open Go.RowKit Go.Deep Go.Proofs.Ytjohbfdifdjldac.Num

/-- The marks from k on: n ranges of them. -/
def marksR (k : Int) : Nat → List Rg
  | 0 => []
  | n + 1 => (k, k + 1) :: marksR (k + 2) n
theorem marksR_len (n : Nat) : ∀ k, (marksR k n).length = n := by
  induction n with
  | zero => intro k; rfl
  | succ n ih => intro k; simp [marksR, ih]
theorem marksR_at (n : Nat) : ∀ k j (h : j < (marksR k n).length), (marksR k n)[j] = (k + 2 * (j : Int), k + 2 * (j : Int) + 1) := by
  induction n with
  | zero => intro k j h; simp [marksR] at h
  | succ n ih =>
    intro k j h
    cases j with
    | zero => simp [marksR]
    | succ j =>
      have h2 := ih (k + 2) j (by simpa [marksR] using h)
      simp only [marksR, List.getElem_cons_succ]
      rw [h2]
      refine Prod.ext ?_ ?_
      · show k + 2 + 2 * (j : Int) = k + 2 * ((j + 1 : Nat) : Int); omega
      · show k + 2 + 2 * (j : Int) + 1 = k + 2 * ((j + 1 : Nat) : Int) + 1; omega

theorem grown_refl (w : World) (g : Option Nat) : w.grownBy w g := ⟨rfl, rfl, rfl, Nat.le_refl _, fun _ _ _ => rfl⟩
theorem grown_more {w w' : World} {g : Nat} (h : w.grownBy w' (some g)) (j : Nat) (u v : Value) : w.grownBy ((w'.setCell ⟨g, j, none⟩ u).setCell ⟨g, j + 1, none⟩ v) (some g) :=
  ⟨h.os, h.tape, h.output, by simpa [World.setCell] using h.size, fun i hi hne => by
    have hg : i ≠ g := by rintro rfl; exact hne rfl
    exact ((Below.heap_setCell _ ⟨g, j + 1, none⟩ v i hg).trans (Below.heap_setCell _ ⟨g, j, none⟩ u i hg)).trans (h.block i hi hne)⟩

set_option maxRecDepth 100000 in
/-- laws.markRangeS, on a row of the call's own. -/
theorem markrow (l : List Rg) (k : Int) (base g n cap : Nat) (w : World) (ho : RowR w base g n cap l) (hn : n ≤ 1000000000000) (hk : 0 ≤ k ∧ k ≤ 1000000000000) :
    Calls Try.prog 43 #[.slice (some ⟨g, 0, none⟩) n cap, .int .i64 k] w fun e w' => e = .returned (.int .i64 (k + 2 * (n : Int))) ∧ RowR w' base g n cap (marksR k n) ∧ Below base w w' ∧ w.grownBy w' (some g) := by
  have HO := Lib.hid ho
  have hbg := ho.ge.1
  clear ho
  go_enter Try.func43, Try.ntmps43
  go_wp2
  go_loopw [1, 5] (fun kk i wr => ∃ (j : Nat) (m : List Rg), j ≤ n ∧ i = .int .i64 j ∧ kk = .int .i64 (k + 2 * (j : Int)) ∧ RowR wr base g n cap m ∧ m.take j = (marksR k n).take j ∧ Below base w wr ∧ w.grownBy wr (some g)) (fun _ i _ => n - (intOf i).toNat)
  case atStart => exact ⟨0, l, Nat.zero_le _, rfl, by simp, HO.out, rfl, Below.refl _ _, grown_refl _ _⟩
  case round =>
    obtain ⟨j, m, hj, rfl, rfl, hown, ht, hb, hg⟩ := hrel
    have HW := Lib.hid hown
    have HB := Lib.hid hb
    have HT := Lib.hid ht
    have HG := Lib.hid hg
    clear hown hb ht hg
    by_cases hlt : j < n
    · have hjm : j < m.length := by rw [HW.out.1]; exact hlt
      have hjk : j < (marksR k n).length := by rw [marksR_len]; exact hlt
      obtain ⟨q1, q2⟩ := HW.out.cells j hjm
      have hfz := HW.out.free
      have HS := Lib.hid (set_take (l := marksR k n) (m := m) (by rw [marksR_len]; exact HW.out.1) HT.out hjk _ (marksR_at n k j hjk))
      have hw1 : IntKind.i64.wrap (k + 2 * (j : Int) + 1) = k + 2 * (j : Int) + 1 := by rw [IntKind.wrap_i64]; omega
      have hw2 : IntKind.i64.wrap (k + 2 * (j : Int) + 1 + 1) = k + 2 * ((j + 1 : Nat) : Int) := by rw [IntKind.wrap_i64]; omega
      go_wp2
      go_roundw
      case rel => exact ⟨j + 1, _, hlt, by go_num, rfl, HW.out.store j hjm (k + 2 * (j : Int)) (k + 2 * (j : Int) + 1), HS.out, (HB.out.setCell (p := ⟨_, _, _⟩) hbg _).setCell (p := ⟨_, _, _⟩) hbg _, grown_more HG.out _ _ _⟩
      case measure => simp [intOf]; omega
    · obtain rfl : j = n := by omega
      have HE : Hid (m = marksR k j) := Lib.hid (by
        have h := HT.out
        rw [List.take_of_length_le (by rw [HW.out.1]; exact Nat.le_refl _), List.take_of_length_le (by rw [marksR_len]; exact Nat.le_refl _)] at h
        exact h)
      rw [HE.out] at HW
      go_wp2
      go_ret
      exact ⟨rfl, HW.out, HB.out, HG.out⟩

set_option maxRecDepth 100000 in
/-- laws.markRangeS, on no slice. -/
theorem marknone (k : Int) (w : World) :
    Calls Try.prog 43 #[.slice none 0 0, .int .i64 k] w fun e w' => e = .returned (.int .i64 k) ∧ w' = w := by
  go_enter Try.func43, Try.ntmps43
  go_wp2
  go_loop [1, 5] (fun kk i => i = .int .i64 0 ∧ kk = .int .i64 k) (fun _ i => (intOf i).toNat)
  case atStart => exact ⟨rfl, rfl⟩
  case round =>
    obtain ⟨rfl, rfl⟩ := hrel
    go_wp2
    go_ret
    exact ⟨rfl, rfl⟩

/-- The marks of a slice of the call's own: nothing, or a row. -/
theorem markany (l : List Rg) (k : Int) (v : Value) (base : Nat) (w : World) (ho : OwnR w base v l) (hn : l.length ≤ 1000000000000) (hk : 0 ≤ k ∧ k ≤ 1000000000000) :
    Calls Try.prog 43 #[v, .int .i64 k] w fun e w' => e = .returned (.int .i64 (k + 2 * (l.length : Int))) ∧ OwnR w' base v (marksR k l.length) ∧ Below base w w' := by
  have h0 := ho
  obtain ⟨_, h⟩ := h0
  rcases h with ⟨rfl, hz⟩ | ⟨g, cap, cur, rfl, _, _, _, _, _, _⟩
  · obtain rfl : l = [] := List.eq_nil_of_length_eq_zero hz
    refine (marknone k w).mono ?_
    rintro e w' ⟨rfl, rfl⟩
    exact ⟨by simp, OwnR.empty, Below.refl _ _⟩
  · refine (markrow l k base g l.length cap w (OwnR.row ho) hn hk).mono ?_
    rintro e w' ⟨rfl, h1, h2, _⟩
    exact ⟨rfl, h1.own, h2⟩

set_option maxRecDepth 100000 in
/-- laws.heldRangeS, of a slice that holds the marks. -/
theorem heldany (n : Nat) (A : Option Addr) (cap B : Nat) (w : World) (hr : Rgs w B A (marksR 1 n)) (hn : n ≤ 1000000000000) :
    Calls Try.prog 45 #[.slice A n cap, .int .i64 1] w fun e w' => e = .returned (.int .i64 (1 + 2 * (n : Int))) ∧ w' = w := by
  have HR := Lib.hid hr
  clear hr
  go_enter Try.func45, Try.ntmps45
  go_wp2
  go_loop [1, 5] (fun k i => ∃ j : Nat, j ≤ n ∧ i = .int .i64 j ∧ k = .int .i64 (1 + 2 * (j : Int))) (fun _ i => n - (intOf i).toNat)
  case atStart => exact ⟨0, Nat.zero_le _, rfl, rfl⟩
  case round =>
    obtain ⟨j, hj, rfl, rfl⟩ := hrel
    by_cases hlt : j < n
    · obtain ⟨b, off, rfl, hbB, hc, hd⟩ := HR.out j (by rw [marksR_len]; exact hlt)
      rw [marksR_at] at hc hd
      have hw1 : IntKind.i64.wrap (1 + 2 * (j : Int) + 1) = 1 + 2 * (j : Int) + 1 := by rw [IntKind.wrap_i64]; omega
      have hw2 : IntKind.i64.wrap (1 + 2 * (j : Int) + 1 + 1) = 1 + 2 * ((j + 1 : Nat) : Int) := by rw [IntKind.wrap_i64]; omega
      go_wp2
      go_round
      case rel => exact ⟨j + 1, by omega, by go_num, rfl⟩
      case measure => simp [intOf]; omega
    · obtain rfl : j = n := by omega
      go_wp2
      go_ret
      exact ⟨rfl, rfl⟩
end Go.Proofs.Ytjohbfdifdjldac

namespace Go.Proofs.Ytjohbfdifdjldac
open Go.RowKit Go.Deep Go.Proofs.Ytjohbfdifdjldac.Num

set_option maxRecDepth 100000 in
/-- laws.toRange -/
theorem torange (x : Rg) (w : World) :
    Calls Try.prog 62 #[rgV x] w fun e w' => e = .returned (rgV x) ∧ Below w.heap.size w w' := by
  go_enter Try.func62, Try.ntmps62
  go_wp2
  refine bodyPost_ret (results_cell_row rfl _ _ (w.heap.size + 1) _ _ _ _ rfl (rg_third w _ _ _) Try.underlying56 rfl (by kernel_rfl)) rfl ?_
  exact ⟨rfl, (((Below.refl _ _).alloc (Nat.le_refl _) _).alloc (by simp) _).alloc (by simp; omega) _⟩

/-- laws.szRangeS -/
theorem szrange (n : Nat) (A : Option Addr) (cap : Nat) (k : Int) (w : World) (hn : n ≤ 9223372036854775807) (hk : 0 ≤ k ∧ k ≤ 1048576) :
    Calls Try.prog 23 #[.slice A n cap, .int .i64 k] w fun e w' => e = .returned (.int .i64 (if k < n then -1 else k - n)) ∧ Below w.heap.size w w' := by
  have hw : IntKind.i64.wrap (k - (n : Int)) = k - n := by rw [IntKind.wrap_i64]; omega
  by_cases h : k < n
  · have hd : decide (k - (n : Int) < 0) = true := decide_eq_true (by omega)
    rw [if_pos h]
    clear h
    go_enter Try.func23, Try.ntmps23
    go_wp2
    go_ret
    exact ⟨rfl, Below.refl _ _⟩
  · have hd : decide (k - (n : Int) < 0) = false := decide_eq_false (by omega)
    rw [if_neg h]
    clear h
    go_enter Try.func23, Try.ntmps23
    go_wp2
    go_ret
    exact ⟨rfl, Below.refl _ _⟩

theorem madeR (n : Nat) : (madeCells #[Value.int .i64 0, Value.int .i64 0] (n * 2)).toList = valsR (List.replicate n (0, 0)) := by
  have h1 : ∀ n, valsR (List.replicate n ((0, 0) : Rg)) = List.replicate (n * 2) (Value.int .i64 0) := by
    intro n
    induction n with
    | zero => rfl
    | succ n ih =>
      rw [List.replicate_succ, show (n + 1) * 2 = n * 2 + 1 + 1 from by omega, List.replicate_succ, List.replicate_succ]
      show _ :: _ :: valsR _ = _
      rw [ih]
  rw [h1]
  apply List.ext_getElem?
  intro j
  by_cases hj : j < n * 2
  · rcases Nat.mod_two_eq_zero_or_one j with hm | hm <;> simp [madeCells, hj, hm]
  · simp [madeCells, hj]
theorem make_rgs (n : Nat) (hn : n ≤ 1048576) (w : World) :
    ∃ w', (Instr.makeSlice 33 (.int .i64 (n : Int)) (.int .i64 (n : Int))).run Try.prog w = .ok (.slice (some ⟨w.heap.size, 0, none⟩) n n) w' ∧ RowR w' w.heap.size w.heap.size n n (List.replicate n (0, 0)) ∧ Below w.heap.size w w' := by
  obtain ⟨i0, hi, hz0, hz1, hz2⟩ := info_parts infoR
  obtain ⟨w', h1, h2, h3⟩ := run_make_full w w.heap.size 33 56 i0 (.agg #[.int .i64 0, .int .i64 0]) 2 Try.underlying33 hi hz0 hz1 .i64 .i64 n (by rw [hz2]; omega) (by unfold maxLen; omega) (Nat.le_refl _)
  refine ⟨w', h1, ⟨by simp, ?_⟩, (Below.refl _ _).grown h3 (Nat.le_refl _) (fun k hk => by cases hk)⟩
  rw [← madeR]
  exact h2

set_option maxRecDepth 100000 in
/-- laws.toRangeS: a copy, in a new block. -/
theorem toranges (l : List Rg) (A : Option Addr) (cap B : Nat) (w : World) (hB : B ≤ w.heap.size) (hr : Rgs w B A l) (hn : l.length ≤ 1048576) :
    Calls Try.prog 33 #[.slice A l.length cap] w fun e w' => e = .returned (.slice (some ⟨w.heap.size, 0, none⟩) l.length l.length) ∧ RowR w' w.heap.size w.heap.size l.length l.length l ∧ Below w.heap.size w w' := by
  have HR := Lib.hid hr
  clear hr
  obtain ⟨w0, hmk, ho0, hb0⟩ := make_rgs l.length hn w
  have HO0 := Lib.hid ho0
  have HB0 := Lib.hid hb0
  clear ho0 hb0
  go_enter Try.func33, Try.ntmps33
  go_wp2
  clear hmk
  go_loopw [4] (fun i wr => ∃ (j : Nat) (m : List Rg), j ≤ l.length ∧ i = .int .i64 j ∧ RowR wr w.heap.size w.heap.size l.length l.length m ∧ m.take j = l.take j ∧ Below w.heap.size w wr) (fun i _ => l.length - (intOf i).toNat)
  case atStart => exact ⟨0, _, Nat.zero_le _, rfl, HO0.out, rfl, HB0.out⟩
  case round =>
    obtain ⟨j, m, hj, rfl, ho, ht, hb⟩ := hrel
    have HO := Lib.hid ho
    have HB := Lib.hid hb
    have HT := Lib.hid ht
    clear ho hb ht HO0 HB0
    by_cases hlt : j < l.length
    · have HRW := Lib.hid (HR.out.below hB HB.out)
      obtain ⟨b, off, rfl, hbB, c1, c2⟩ := HRW.out j hlt
      have HX : Hid (l[j] = l[j]) := Lib.hid rfl
      have HS : Hid (∀ x, l[j] = x → (m.set j x).take (j + 1) = l.take (j + 1)) := Lib.hid (fun x hx => set_take HO.out.1 HT.out hlt x hx)
      generalize hx : l[j] = x at *
      have HS2 := Lib.hid (HS.out x rfl)
      go_wp2_with fail
      refine (torange x _).mono ?_
      rintro e w1 ⟨rfl, hb1⟩
      have HO1 := Lib.hid (HO.out.later hb1)
      have HB1 := Lib.hid (HB.out.trans (hb1.mono HB.out.size))
      have hjm : j < m.length := by rw [HO.out.1]; exact hlt
      obtain ⟨q1, q2⟩ := HO1.out.cells j hjm
      have hfz := HO1.out.free
      clear hb1 c1 c2 hx HS HX
      go_wp2
      go_roundw
      case rel => exact ⟨j + 1, _, hlt, by go_num, HO1.out.store j hjm x.1 x.2, HS2.out, (HB1.out.setCell (p := ⟨_, _, _⟩) (Nat.le_refl _) _).setCell (p := ⟨_, _, _⟩) (Nat.le_refl _) _⟩
      case measure => simp [intOf]; omega
    · obtain rfl : j = l.length := by omega
      have HE : Hid (m = l) := Lib.hid (by
        have h := HT.out
        rw [List.take_of_length_le (by rw [HO.out.1]; exact Nat.le_refl _), List.take_of_length_le (Nat.le_refl _)] at h
        exact h)
      have HO2 := HO
      rw [HE.out] at HO2
      go_wp2
      go_ret
      exact ⟨rfl, HO2.out, HB.out⟩

end Go.Proofs.Ytjohbfdifdjldac

namespace Go.Proofs.Ytjohbfdifdjldac
open Go.RowKit Go.Deep Go.Proofs.Ytjohbfdifdjldac.Num

set_option maxRecDepth 100000 in
/-- laws.markRangeS, on a stretch of ranges of the call's own. -/
theorem markP (l : List Rg) (k : Int) (base g off n cap : Nat) (w : World) (hln : l.length = n) (ho : MidP w base g off l) (hn : n ≤ 1000000000000) (hk : 0 ≤ k ∧ k ≤ 1000000000000) :
    Calls Try.prog 43 #[.slice (some ⟨g, off, none⟩) n cap, .int .i64 k] w fun e w' => e = .returned (.int .i64 (k + 2 * (n : Int))) ∧ MidP w' base g off (marksR k n) ∧ Below base w w' ∧ w.grownBy w' (some g) := by
  have HO := Lib.hid ho
  have hbg := ho.ge.1
  clear ho
  go_enter Try.func43, Try.ntmps43
  go_wp2
  go_loopw [1, 5] (fun kk i wr => ∃ (j : Nat) (m : List Rg), j ≤ n ∧ i = .int .i64 j ∧ kk = .int .i64 (k + 2 * (j : Int)) ∧ m.length = n ∧ MidP wr base g off m ∧ m.take j = (marksR k n).take j ∧ Below base w wr ∧ w.grownBy wr (some g)) (fun _ i _ => n - (intOf i).toNat)
  case atStart => exact ⟨0, l, Nat.zero_le _, rfl, by simp, hln, HO.out, rfl, Below.refl _ _, grown_refl _ _⟩
  case round =>
    obtain ⟨j, m, hj, rfl, rfl, hm, hown, ht, hb, hg⟩ := hrel
    have HW := Lib.hid hown
    have HB := Lib.hid hb
    have HT := Lib.hid ht
    have HG := Lib.hid hg
    have HM := Lib.hid hm
    clear hown hb ht hg hm hln
    by_cases hlt : j < n
    · have hjm : j < m.length := by rw [HM.out]; exact hlt
      have hjk : j < (marksR k n).length := by rw [marksR_len]; exact hlt
      obtain ⟨q1, q2⟩ := HW.out.cell j hjm
      have hfz := HW.out.free
      have HS := Lib.hid (set_take (l := marksR k n) (m := m) (by rw [marksR_len]; exact HM.out) HT.out hjk _ (marksR_at n k j hjk))
      have hw1 : IntKind.i64.wrap (k + 2 * (j : Int) + 1) = k + 2 * (j : Int) + 1 := by rw [IntKind.wrap_i64]; omega
      have hw2 : IntKind.i64.wrap (k + 2 * (j : Int) + 1 + 1) = k + 2 * ((j + 1 : Nat) : Int) := by rw [IntKind.wrap_i64]; omega
      go_wp2
      go_roundw
      case rel => exact ⟨j + 1, _, hlt, by go_num, rfl, (List.length_set ..).trans HM.out, HW.out.store j hjm (k + 2 * (j : Int)) (k + 2 * (j : Int) + 1), HS.out, (HB.out.setCell (p := ⟨_, _, _⟩) hbg _).setCell (p := ⟨_, _, _⟩) hbg _, only_moreI (only_moreI HG.out _ _) _ _⟩
      case measure => simp [intOf]; omega
    · obtain rfl : j = n := by omega
      have HE : Hid (m = marksR k j) := Lib.hid (by
        have h := HT.out
        rw [List.take_of_length_le (by rw [HM.out]; exact Nat.le_refl _), List.take_of_length_le (by rw [marksR_len]; exact Nat.le_refl _)] at h
        exact h)
      rw [HE.out] at HW
      go_wp2
      go_ret
      exact ⟨rfl, HW.out, HB.out, HG.out⟩

/-- laws.markRangeS, on a slice of the call's own. -/
theorem markQ (l : List Rg) (k : Int) (v : Value) (base : Nat) (w : World) (ho : OwnP w base v l) (hn : l.length ≤ 1000000000000) (hk : 0 ≤ k ∧ k ≤ 1000000000000) :
    Calls Try.prog 43 #[v, .int .i64 k] w fun e w' => e = .returned (.int .i64 (k + 2 * (l.length : Int))) ∧ OwnP w' base v (marksR k l.length) ∧ Below base w w' ∧ w.grownBy w' v.ownBlock := by
  rcases ho with ⟨rfl, rfl⟩ | ⟨g, off, cap, rfl, hle, h⟩
  · refine (marknone k w).mono ?_
    rintro e w' ⟨rfl, rfl⟩
    exact ⟨by simp, .inl ⟨rfl, rfl⟩, Below.refl _ _, only_reflI _ _⟩
  · refine (markP l k base g off l.length cap w rfl h hn hk).mono ?_
    rintro e w' ⟨rfl, h1, h2, h3⟩
    exact ⟨rfl, .inr ⟨g, off, cap, by rw [marksR_len], by rw [marksR_len]; exact hle, h1⟩, h2, h3⟩

set_option maxRecDepth 100000 in
/-- laws.heldRangeS, of a slice that holds the marks from k on. -/
theorem heldP (k : Int) (n : Nat) (A : Option Addr) (cap B : Nat) (w : World) (hr : Rgs w B A (marksR k n)) (hn : n ≤ 1000000000000) (hk : 0 ≤ k ∧ k ≤ 1000000000000) :
    Calls Try.prog 45 #[.slice A n cap, .int .i64 k] w fun e w' => e = .returned (.int .i64 (k + 2 * (n : Int))) ∧ w' = w := by
  have HR := Lib.hid hr
  clear hr
  go_enter Try.func45, Try.ntmps45
  go_wp2
  go_loop [1, 5] (fun kk i => ∃ j : Nat, j ≤ n ∧ i = .int .i64 j ∧ kk = .int .i64 (k + 2 * (j : Int))) (fun _ i => n - (intOf i).toNat)
  case atStart => exact ⟨0, Nat.zero_le _, rfl, by simp⟩
  case round =>
    obtain ⟨j, hj, rfl, rfl⟩ := hrel
    by_cases hlt : j < n
    · obtain ⟨b, off, rfl, hbB, hc, hd⟩ := HR.out j (by rw [marksR_len]; exact hlt)
      rw [marksR_at] at hc hd
      have hw1 : IntKind.i64.wrap (k + 2 * (j : Int) + 1) = k + 2 * (j : Int) + 1 := by rw [IntKind.wrap_i64]; omega
      have hw2 : IntKind.i64.wrap (k + 2 * (j : Int) + 1 + 1) = k + 2 * ((j + 1 : Nat) : Int) := by rw [IntKind.wrap_i64]; omega
      go_wp2
      go_round
      case rel => exact ⟨j + 1, by omega, by go_num, rfl⟩
      case measure => simp [intOf]; omega
    · obtain rfl : j = n := by omega
      go_wp2
      go_ret
      exact ⟨rfl, rfl⟩
end Go.Proofs.Ytjohbfdifdjldac

namespace Go.Proofs.Ytjohbfdifdjldac
open Go.RowKit Go.Deep Go.Proofs.Ytjohbfdifdjldac.Num

/-- What laws.szSender returns. -/
def szS (N : Int) (s : Sn) : Int := if N < (s.rn.cs.length : Int) + s.pe.length + s.fl.length + s.ac.length then -1 else N - ((s.rn.cs.length : Int) + s.pe.length + s.fl.length + s.ac.length)
theorem szS_low (N : Int) (s : Sn) (hN : N ≤ 1048576) : -1 ≤ szS N s ∧ szS N s ≤ 1048576 := by
  unfold szS
  split <;> omega
theorem szS_ok {N : Int} {s : Sn} (hN : N ≤ 1048576) (h : 0 ≤ szS N s) : s.rn.cs.length ≤ 1048576 ∧ s.pe.length ≤ 1048576 ∧ s.fl.length ≤ 1048576 ∧ s.ac.length ≤ 1048576 := by
  unfold szS at h
  split at h <;> omega
def szP (k : Int) (n : Nat) : Int := if k < (n : Int) then -1 else k - n
set_option maxRecDepth 100000 in
set_option maxHeartbeats 1000000 in
/-- laws.szSender -/
theorem lszs (N : Int) (hN0 : 0 ≤ N) (hN1 : N ≤ 1048576) (s : Sn) (A1 A2 A3 A4 : Option Addr) (c1 c2 c3 c4 : Nat) (w : World) (hr : ReadS w w.heap.size A1 A2 A3 A4 s) (hn : s.rn.cs.length ≤ 9223372036854775807 ∧ s.pe.length ≤ 9223372036854775807 ∧ s.fl.length ≤ 9223372036854775807 ∧ s.ac.length ≤ 9223372036854775807) :
    Calls Try.prog 7 #[snV s (.slice A1 s.rn.cs.length c1) (.slice A2 s.pe.length c2) (.slice A3 s.fl.length c3) (.slice A4 s.ac.length c4), .int .i64 N] w fun e w' => e = .returned (.int .i64 (szS N s)) ∧ Below w.heap.size w w' := by
  obtain ⟨n1, n2, n3, n4⟩ := hn
  have HW := Lib.hid (InSn.start w s A1 A2 A3 A4 c1 c2 c3 c4 27 hr)
  have HZ1 := Lib.hid (fun W (h : InSn w w.heap.size s A1 A2 A3 A4 c1 c2 c3 c4 W) => lszn N hN0 hN1 s.rn A1 c1 W.heap.size W (Nat.le_refl _) (h.2.1.1.up (Nat.le_of_lt h.2.2.1)) n1)
  have HZ : Hid (∀ (k : Int) (n : Nat) A c W, 0 ≤ k ∧ k ≤ 1048576 → n ≤ 9223372036854775807 → Calls Try.prog 23 #[.slice A n c, .int .i64 k] W fun e w' => e = .returned (.int .i64 (szP k n)) ∧ Below W.heap.size W w') := Lib.hid fun k n A c W hk h => szrange n A c k W h hk
  have HV : Hid (szS N s = (if szI N s.rn.cs < 0 then -1 else if szP (szI N s.rn.cs) s.pe.length < 0 then -1 else if szP (szP (szI N s.rn.cs) s.pe.length) s.fl.length < 0 then -1 else szP (szP (szP (szI N s.rn.cs) s.pe.length) s.fl.length) s.ac.length)) := Lib.hid (by
    unfold szS szI szP
    repeat' split
    all_goals omega)
  have h1 := (szI_low N s.rn.cs hN1)
  rw [HV.out]
  clear hr HV hN0 hN1
  generalize szI N s.rn.cs = q1 at *
  have HQ2 : Hid (0 ≤ q1 → -1 ≤ szP q1 s.pe.length ∧ szP q1 s.pe.length ≤ q1) := Lib.hid fun h => by unfold szP; split <;> omega
  by_cases d1 : q1 < 0
  · rw [if_pos d1]
    obtain rfl : q1 = -1 := by omega
    clear d1 h1
    go_enter Try.func7, Try.ntmps7
    go_wp2_with fail
    refine (HZ1.out _ HW.out).mono ?_
    rintro e w1 ⟨rfl, hb⟩
    have H1 := Lib.hid (HW.out.next hb)
    clear hb HW HQ2
    go_wp2
    go_ret
    exact ⟨rfl, H1.out.2.2.2⟩
  rw [if_neg d1]
  have e1 : decide (q1 < 0) = false := decide_eq_false d1
  have h2 := HQ2.out (by omega)
  have HC2 := Lib.hid (fun W => HZ.out q1 s.pe.length A2 c2 W (by omega) n2)
  generalize szP q1 s.pe.length = q2 at *
  clear HQ2
  have HQ3 : Hid (0 ≤ q2 → -1 ≤ szP q2 s.fl.length ∧ szP q2 s.fl.length ≤ q2) := Lib.hid fun h => by unfold szP; split <;> omega
  by_cases d2 : q2 < 0
  · rw [if_pos d2]
    obtain rfl : q2 = -1 := by omega
    clear d2 h2 h1 d1
    go_enter Try.func7, Try.ntmps7
    go_wp2_with fail
    refine (HZ1.out _ HW.out).mono ?_
    rintro e w1 ⟨rfl, hb⟩
    have H1 := Lib.hid (HW.out.next hb)
    clear hb HW HQ3
    obtain ⟨a0, a1, a2, a3, a4, a5, a6, a7, a8, a9, a10, a11⟩ := H1.out.1
    go_wp2_with fail
    refine (HC2.out _).mono ?_
    rintro e w2 ⟨rfl, hb⟩
    have H2 := Lib.hid (H1.out.next hb)
    clear hb H1 a0 a1 a2 a3 a4 a5 a6 a7 a8 a9 a10 a11
    go_wp2
    go_ret
    exact ⟨rfl, H2.out.2.2.2⟩
  rw [if_neg d2]
  have e2 : decide (q2 < 0) = false := decide_eq_false d2
  have h3 := HQ3.out (by omega)
  have HC3 := Lib.hid (fun W => HZ.out q2 s.fl.length A3 c3 W (by omega) n3)
  generalize szP q2 s.fl.length = q3 at *
  clear HQ3
  by_cases d3 : q3 < 0
  · rw [if_pos d3]
    obtain rfl : q3 = -1 := by omega
    clear d3 h3 h2 h1 d1 d2
    go_enter Try.func7, Try.ntmps7
    go_wp2_with fail
    refine (HZ1.out _ HW.out).mono ?_
    rintro e w1 ⟨rfl, hb⟩
    have H1 := Lib.hid (HW.out.next hb)
    clear hb HW 
    obtain ⟨a0, a1, a2, a3, a4, a5, a6, a7, a8, a9, a10, a11⟩ := H1.out.1
    go_wp2_with fail
    refine (HC2.out _).mono ?_
    rintro e w2 ⟨rfl, hb⟩
    have H2 := Lib.hid (H1.out.next hb)
    clear hb H1 a0 a1 a2 a3 a4 a5 a6 a7 a8 a9 a10 a11
    obtain ⟨a0, a1, a2, a3, a4, a5, a6, a7, a8, a9, a10, a11⟩ := H2.out.1
    go_wp2_with fail
    refine (HC3.out _).mono ?_
    rintro e w3 ⟨rfl, hb⟩
    have H3 := Lib.hid (H2.out.next hb)
    clear hb H2 a0 a1 a2 a3 a4 a5 a6 a7 a8 a9 a10 a11
    go_wp2
    go_ret
    exact ⟨rfl, H3.out.2.2.2⟩
  rw [if_neg d3]
  have e3 : decide (q3 < 0) = false := decide_eq_false d3
  have HC4 := Lib.hid (fun W => HZ.out q3 s.ac.length A4 c4 W (by omega) n4)
  have h4 : -1 ≤ szP q3 s.ac.length := by unfold szP; split <;> omega
  generalize szP q3 s.ac.length = q4 at *
  clear h1 h2 h3 d1 d2 d3 HZ
  by_cases d4 : q4 < 0
  · obtain rfl : q4 = -1 := by omega
    clear d4 h4
    go_enter Try.func7, Try.ntmps7
    go_wp2_with fail
    refine (HZ1.out _ HW.out).mono ?_
    rintro e w1 ⟨rfl, hb⟩
    have H1 := Lib.hid (HW.out.next hb)
    clear hb HW 
    obtain ⟨a0, a1, a2, a3, a4, a5, a6, a7, a8, a9, a10, a11⟩ := H1.out.1
    go_wp2_with fail
    refine (HC2.out _).mono ?_
    rintro e w2 ⟨rfl, hb⟩
    have H2 := Lib.hid (H1.out.next hb)
    clear hb H1 a0 a1 a2 a3 a4 a5 a6 a7 a8 a9 a10 a11
    obtain ⟨a0, a1, a2, a3, a4, a5, a6, a7, a8, a9, a10, a11⟩ := H2.out.1
    go_wp2_with fail
    refine (HC3.out _).mono ?_
    rintro e w3 ⟨rfl, hb⟩
    have H3 := Lib.hid (H2.out.next hb)
    clear hb H2 a0 a1 a2 a3 a4 a5 a6 a7 a8 a9 a10 a11
    obtain ⟨a0, a1, a2, a3, a4, a5, a6, a7, a8, a9, a10, a11⟩ := H3.out.1
    go_wp2_with fail
    refine (HC4.out _).mono ?_
    rintro e w4 ⟨rfl, hb⟩
    have H4 := Lib.hid (H3.out.next hb)
    clear hb H3 a0 a1 a2 a3 a4 a5 a6 a7 a8 a9 a10 a11
    go_wp2
    go_ret
    exact ⟨rfl, H4.out.2.2.2⟩
  have e4 : decide (q4 < 0) = false := decide_eq_false d4
  clear d4 h4
  go_enter Try.func7, Try.ntmps7
  go_wp2_with fail
  refine (HZ1.out _ HW.out).mono ?_
  rintro e w1 ⟨rfl, hb⟩
  have H1 := Lib.hid (HW.out.next hb)
  clear hb HW 
  obtain ⟨a0, a1, a2, a3, a4, a5, a6, a7, a8, a9, a10, a11⟩ := H1.out.1
  go_wp2_with fail
  refine (HC2.out _).mono ?_
  rintro e w2 ⟨rfl, hb⟩
  have H2 := Lib.hid (H1.out.next hb)
  clear hb H1 a0 a1 a2 a3 a4 a5 a6 a7 a8 a9 a10 a11
  obtain ⟨a0, a1, a2, a3, a4, a5, a6, a7, a8, a9, a10, a11⟩ := H2.out.1
  go_wp2_with fail
  refine (HC3.out _).mono ?_
  rintro e w3 ⟨rfl, hb⟩
  have H3 := Lib.hid (H2.out.next hb)
  clear hb H2 a0 a1 a2 a3 a4 a5 a6 a7 a8 a9 a10 a11
  obtain ⟨a0, a1, a2, a3, a4, a5, a6, a7, a8, a9, a10, a11⟩ := H3.out.1
  go_wp2_with fail
  refine (HC4.out _).mono ?_
  rintro e w4 ⟨rfl, hb⟩
  have H4 := Lib.hid (H3.out.next hb)
  clear hb H3 a0 a1 a2 a3 a4 a5 a6 a7 a8 a9 a10 a11
  go_wp2
  go_ret
  exact ⟨rfl, H4.out.2.2.2⟩

/-- Two senders in neighbouring blocks: all that was made since lies behind them. -/
def TwoS (w0 : World) (s : Sn) (v1 v2 v3 v4 u1 u2 u3 u4 : Value) (W : World) : Prop := CellS W w0.heap.size s v1 v2 v3 v4 ∧ CellS W (w0.heap.size + 1) s u1 u2 u3 u4 ∧ w0.heap.size + 1 < W.heap.size ∧ Below w0.heap.size w0 W
theorem TwoS.next {w0 : World} {s : Sn} {v1 v2 v3 v4 u1 u2 u3 u4 : Value} {W W' : World} (h : TwoS w0 s v1 v2 v3 v4 u1 u2 u3 u4 W) (hb : Below W.heap.size W W') : TwoS w0 s v1 v2 v3 v4 u1 u2 u3 u4 W' :=
  ⟨h.1.below hb (by have := h.2.2.1; omega), h.2.1.below hb h.2.2.1, Nat.lt_of_lt_of_le h.2.2.1 hb.size, h.2.2.2.trans (hb.mono (by have := h.2.2.1; omega))⟩
theorem TwoS.start (w : World) (s : Sn) (v1 v2 v3 v4 u1 u2 u3 u4 : Value) (t : TypeId) : TwoS w s v1 v2 v3 v4 u1 u2 u3 u4 ((w.alloc (.cells (snB s v1 v2 v3 v4) t)).alloc (.cells (snB s u1 u2 u3 u4) t)) := by
  have hs : (w.alloc (.cells (snB s v1 v2 v3 v4) t)).heap.size = w.heap.size + 1 := by simp
  have h2 := Cell12.new (w.alloc (.cells (snB s v1 v2 v3 v4) t)) s.st s.rn.size s.rn.base s.rn.en u1 u2 u3 u4 s.fin s.fi s.sent s.code t
  rw [hs] at h2
  exact ⟨(Cell12.new w _ _ _ _ _ _ _ _ _ _ _ _ t).below ((Below.refl _ _).alloc (Nat.le_refl _) _) (by simp), h2, by simp, ((Below.refl _ _).alloc (Nat.le_refl _) _).alloc (by simp) _⟩
set_option maxRecDepth 100000 in
set_option maxHeartbeats 1000000 in
/-- laws.eqSender, of two senders that hold the same. -/
theorem eqsn (s : Sn) (A1 A2 A3 A4 : Option Addr) (c1 c2 c3 c4 : Nat) (B1 B2 B3 B4 : Option Addr) (d1 d2 d3 d4 : Nat) (w : World) (hr : ReadS w w.heap.size A1 A2 A3 A4 s) (hr' : ReadS w w.heap.size B1 B2 B3 B4 s) (hn : s.rn.cs.length ≤ 10000000 ∧ s.pe.length ≤ 10000000 ∧ s.fl.length ≤ 10000000 ∧ s.ac.length ≤ 10000000) :
    Calls Try.prog 13 #[snV s (.slice A1 s.rn.cs.length c1) (.slice A2 s.pe.length c2) (.slice A3 s.fl.length c3) (.slice A4 s.ac.length c4), snV s (.slice B1 s.rn.cs.length d1) (.slice B2 s.pe.length d2) (.slice B3 s.fl.length d3) (.slice B4 s.ac.length d4)] w fun e w' => e = .returned (.bool true) ∧ Below w.heap.size w w' := by
  obtain ⟨n1, n2, n3, n4⟩ := hn
  have HW := Lib.hid (TwoS.start w s (.slice A1 s.rn.cs.length c1) (.slice A2 s.pe.length c2) (.slice A3 s.fl.length c3) (.slice A4 s.ac.length c4) (.slice B1 s.rn.cs.length d1) (.slice B2 s.pe.length d2) (.slice B3 s.fl.length d3) (.slice B4 s.ac.length d4) 35)
  have HE : Hid (∀ W, w.heap.size ≤ W.heap.size → Below w.heap.size w W → Calls Try.prog 40 #[rnV s.rn (.slice A1 s.rn.cs.length c1), rnV s.rn (.slice B1 s.rn.cs.length d1)] W fun e w' => e = .returned (.bool true) ∧ Below W.heap.size W w') := Lib.hid fun W h1 h2 => eqrn s.rn A1 B1 c1 d1 W.heap.size W (Nat.le_refl _) ((hr.below (Nat.le_refl _) h2).up h1).1 ((hr'.below (Nat.le_refl _) h2).up h1).1 (by omega)
  have HE2 : Hid (∀ W, w.heap.size ≤ W.heap.size → Below w.heap.size w W → Calls Try.prog 41 #[(.slice A2 s.pe.length c2), (.slice B2 s.pe.length d2)] W fun e w' => e = .returned (.bool true) ∧ Below W.heap.size W w') := Lib.hid fun W h1 h2 => eqranges s.pe A2 B2 c2 d2 W.heap.size W (Nat.le_refl _) ((hr.below (Nat.le_refl _) h2).up h1).2.1 ((hr'.below (Nat.le_refl _) h2).up h1).2.1 (by omega)
  have HE3 : Hid (∀ W, w.heap.size ≤ W.heap.size → Below w.heap.size w W → Calls Try.prog 41 #[(.slice A3 s.fl.length c3), (.slice B3 s.fl.length d3)] W fun e w' => e = .returned (.bool true) ∧ Below W.heap.size W w') := Lib.hid fun W h1 h2 => eqranges s.fl A3 B3 c3 d3 W.heap.size W (Nat.le_refl _) ((hr.below (Nat.le_refl _) h2).up h1).2.2.1 ((hr'.below (Nat.le_refl _) h2).up h1).2.2.1 (by omega)
  have HE4 : Hid (∀ W, w.heap.size ≤ W.heap.size → Below w.heap.size w W → Calls Try.prog 41 #[(.slice A4 s.ac.length c4), (.slice B4 s.ac.length d4)] W fun e w' => e = .returned (.bool true) ∧ Below W.heap.size W w') := Lib.hid fun W h1 h2 => eqranges s.ac A4 B4 c4 d4 W.heap.size W (Nat.le_refl _) ((hr.below (Nat.le_refl _) h2).up h1).2.2.2 ((hr'.below (Nat.le_refl _) h2).up h1).2.2.2 (by omega)
  have e0 := bne_int s.st
  have e1 := bne_int s.fin
  have e2 := bne_int s.fi
  have e3 := bne_int s.sent
  have e4 := bne_int s.code
  clear hr hr'
  go_enter Try.func13, Try.ntmps13
  go_wp2_with fail
  refine (HE.out _ (by have := HW.out.2.2.1; omega) HW.out.2.2.2).mono ?_
  rintro e w0 ⟨rfl, hb⟩
  have H0 := Lib.hid (HW.out.next hb)
  clear hb HW 
  obtain ⟨a0, a1, a2, a3, a4, a5, a6, a7, a8, a9, a10, a11⟩ := H0.out.1
  obtain ⟨b0, b1, b2, b3, b4, b5, b6, b7, b8, b9, b10, b11⟩ := H0.out.2.1
  go_wp2_with fail
  refine (HE2.out _ (by have := H0.out.2.2.1; omega) H0.out.2.2.2).mono ?_
  rintro e w1 ⟨rfl, hb⟩
  have H1 := Lib.hid (H0.out.next hb)
  clear hb H0 a0 a1 a2 a3 a4 a5 a6 a7 a8 a9 a10 a11 b0 b1 b2 b3 b4 b5 b6 b7 b8 b9 b10 b11
  obtain ⟨a0, a1, a2, a3, a4, a5, a6, a7, a8, a9, a10, a11⟩ := H1.out.1
  obtain ⟨b0, b1, b2, b3, b4, b5, b6, b7, b8, b9, b10, b11⟩ := H1.out.2.1
  go_wp2_with fail
  refine (HE3.out _ (by have := H1.out.2.2.1; omega) H1.out.2.2.2).mono ?_
  rintro e w2 ⟨rfl, hb⟩
  have H2 := Lib.hid (H1.out.next hb)
  clear hb H1 a0 a1 a2 a3 a4 a5 a6 a7 a8 a9 a10 a11 b0 b1 b2 b3 b4 b5 b6 b7 b8 b9 b10 b11
  obtain ⟨a0, a1, a2, a3, a4, a5, a6, a7, a8, a9, a10, a11⟩ := H2.out.1
  obtain ⟨b0, b1, b2, b3, b4, b5, b6, b7, b8, b9, b10, b11⟩ := H2.out.2.1
  go_wp2_with fail
  refine (HE4.out _ (by have := H2.out.2.2.1; omega) H2.out.2.2.2).mono ?_
  rintro e w3 ⟨rfl, hb⟩
  have H3 := Lib.hid (H2.out.next hb)
  clear hb H2 a0 a1 a2 a3 a4 a5 a6 a7 a8 a9 a10 a11 b0 b1 b2 b3 b4 b5 b6 b7 b8 b9 b10 b11
  obtain ⟨a0, a1, a2, a3, a4, a5, a6, a7, a8, a9, a10, a11⟩ := H3.out.1
  obtain ⟨b0, b1, b2, b3, b4, b5, b6, b7, b8, b9, b10, b11⟩ := H3.out.2.1
  go_wp2
  go_ret
  exact ⟨rfl, H3.out.2.2.2⟩

/-- The marks of a sender: the ring's, and then the ranges'. -/
def mk2 (s : Sn) : Int := 1 + (s.rn.cs.length : Int)
def mk3 (s : Sn) : Int := mk2 s + 2 * (s.pe.length : Int)
def mk4 (s : Sn) : Int := mk3 s + 2 * (s.fl.length : Int)
def mk5 (s : Sn) : Int := mk4 s + 2 * (s.ac.length : Int)
/-- The blocks of four slices are written; all else is as it was. -/
def Four (w w' : World) (v1 v2 v3 v4 : Value) : Prop := w'.os = w.os ∧ w'.tape = w.tape ∧ w'.output = w.output ∧ w.heap.size ≤ w'.heap.size ∧ ∀ k, k < w.heap.size → v1.ownBlock ≠ some k → v2.ownBlock ≠ some k → v3.ownBlock ≠ some k → v4.ownBlock ≠ some k → w'.heap[k]? = w.heap[k]?
theorem Four.of {w w1 w2 w3 w4 : World} {v1 v2 v3 v4 : Value} (h1 : w.grownBy w1 v1.ownBlock) (h2 : w1.grownBy w2 v2.ownBlock) (h3 : w2.grownBy w3 v3.ownBlock) (h4 : w3.grownBy w4 v4.ownBlock) : Four w w4 v1 v2 v3 v4 := by
  have s1 := h1.size
  have s2 := h2.size
  have s3 := h3.size
  have s4 := h4.size
  exact ⟨h4.os.trans (h3.os.trans (h2.os.trans h1.os)), h4.tape.trans (h3.tape.trans (h2.tape.trans h1.tape)), h4.output.trans (h3.output.trans (h2.output.trans h1.output)), by omega, fun k hk a1 a2 a3 a4 =>
    (h4.block k (by omega) (fun e => a4 e.symm)).trans ((h3.block k (by omega) (fun e => a3 e.symm)).trans ((h2.block k (by omega) (fun e => a2 e.symm)).trans (h1.block k hk (fun e => a1 e.symm))))⟩
set_option maxRecDepth 100000 in
set_option maxHeartbeats 1000000 in
/-- laws.markSender, on a sender of the call's own. -/
theorem marksn (s : Sn) (v1 v2 v3 v4 : Value) (base : Nat) (w : World) (ho : OwnSn w base v1 v2 v3 v4 s) (hbs : base ≤ w.heap.size) (hn : s.rn.cs.length ≤ 10000000 ∧ s.pe.length ≤ 10000000 ∧ s.fl.length ≤ 10000000 ∧ s.ac.length ≤ 10000000) :
    Calls Try.prog 14 #[snV s v1 v2 v3 v4, .int .i64 1] w fun e w' => e = .returned (.int .i64 (mk5 s)) ∧ OwnS w' base v1 v2 v3 v4 (marks 1 s.rn.cs.length) (marksR (mk2 s) s.pe.length) (marksR (mk3 s) s.fl.length) (marksR (mk4 s) s.ac.length) ∧ Below base w w' ∧ Four w w' v1 v2 v3 v4 := by
  obtain ⟨n1, n2, n3, n4⟩ := hn
  have X0 := Cell12.new w s.st s.rn.size s.rn.base s.rn.en v1 v2 v3 v4 s.fin s.fi s.sent s.code 35
  have B0 := (Below.refl base w).alloc hbs (.cells (snB s v1 v2 v3 v4) 35)
  have hz : (w.alloc (.cells (snB s v1 v2 v3 v4) 35)).heap.size = w.heap.size + 1 := by simp
  have U0 := ho.under
  have O0 := ho.alloc (.cells (snB s v1 v2 v3 v4) 35)
  have k2 : 0 ≤ mk2 s ∧ mk2 s ≤ 1000000000000 := by unfold mk2; omega
  have k3 : 0 ≤ mk3 s ∧ mk3 s ≤ 1000000000000 := by unfold mk3 mk2; omega
  have k4 : 0 ≤ mk4 s ∧ mk4 s ≤ 1000000000000 := by unfold mk4 mk3 mk2; omega
  have HX0 := Lib.hid X0
  have HB0 := Lib.hid B0
  have HO0 := Lib.hid O0
  have HU := Lib.hid U0
  have HZ := Lib.hid hz
  have K2 := Lib.hid (show (1 : Int) + (s.rn.cs.length : Int) = mk2 s from rfl)
  have K3 := Lib.hid (show mk2 s + 2 * (s.pe.length : Int) = mk3 s from rfl)
  have K4 := Lib.hid (show mk3 s + 2 * (s.fl.length : Int) = mk4 s from rfl)
  have K5 := Lib.hid (show mk4 s + 2 * (s.ac.length : Int) = mk5 s from rfl)
  have HF : Hid (∀ W, w.alloc (.cells (snB s v1 v2 v3 v4) 35) = W → ∀ W1 ob, W.grownBy W1 ob → w.grownBy W1 ob) := Lib.hid fun W e W1 ob h => only_firstI (o := .cells (snB s v1 v2 v3 v4) 35) (by rw [e]; exact h)
  clear X0 B0 O0 U0 hz ho
  go_enter Try.func14, Try.ntmps14
  go_upto_region 1 with fail
  obtain ⟨w0, hw0⟩ : ∃ w0, w.alloc (.cells (snB s v1 v2 v3 v4) 35) = w0 := ⟨_, rfl⟩
  have HF0 := Lib.hid (HF.out w0 hw0)
  have HW0 := Lib.hid hw0
  rw [hw0] at HX0 HB0 HO0 HZ
  rw [hw0]
  clear hw0 HF HW0
  obtain ⟨a0, a1, a2, a3, a4, a5, a6, a7, a8, a9, a10, a11⟩ := HX0.out
  go_wp2_with fail
  refine (markrn s.rn v1 base w0 HO0.out.1.1 (by have := HB0.out.size; have := HZ.out; omega) (by omega)).mono ?_
  rintro e w1 ⟨rfl, ho, hb, hg⟩
  rw [K2.out]
  have HO1 := Lib.hid (show OwnS w1 base v1 v2 v3 v4 (marks 1 s.rn.cs.length) s.pe s.fl s.ac from ⟨⟨ho, HO0.out.1.2.1.kept hg (HO0.out.2.1.1.symm), HO0.out.1.2.2.1.kept hg (HO0.out.2.1.2.1.symm), HO0.out.1.2.2.2.kept hg (HO0.out.2.1.2.2.symm)⟩, HO0.out.2⟩)
  have HX1 := Lib.hid (HX0.out.of (hg.block w.heap.size (by have := HZ.out; have := HB0.out.size; omega) (fun e => by have := HU.out.1 _ e.symm; omega)))
  have HS1 := Lib.hid (show w.heap.size + 1 ≤ w1.heap.size by have := hg.size; have := HZ.out; omega)
  have HB1 := Lib.hid (HB0.out.trans hb)
  have HG1 := Lib.hid (HF0.out _ _ hg)
  clear ho hb hg a0 a1 a2 a3 a4 a5 a6 a7 a8 a9 a10 a11 HX0 HO0
  obtain ⟨a0, a1, a2, a3, a4, a5, a6, a7, a8, a9, a10, a11⟩ := HX1.out
  go_wp2_with fail
  refine (markQ s.pe (mk2 s) v2 base w1 HO1.out.1.2.1 (by omega) k2).mono ?_
  rintro e w2 ⟨rfl, ho, hb, hg⟩
  rw [K3.out]
  have HO2 := Lib.hid (show OwnS w2 base v1 v2 v3 v4 (marks 1 s.rn.cs.length) (marksR (mk2 s) s.pe.length) s.fl s.ac from ⟨⟨HO1.out.1.1.kept hg (HO1.out.2.1.1), ho, HO1.out.1.2.2.1.kept hg (HO1.out.2.2.1.1.symm), HO1.out.1.2.2.2.kept hg (HO1.out.2.2.1.2.symm)⟩, HO1.out.2⟩)
  have HX2 := Lib.hid (HX1.out.of (hg.block w.heap.size (by have := HZ.out; have := HB0.out.size; have := HS1.out; omega) (fun e => by have := HU.out.2.1 _ e.symm; omega)))
  have HS2 := Lib.hid (show w.heap.size + 1 ≤ w2.heap.size by have := hg.size; have := HZ.out; have := HS1.out; omega)
  have HB2 := Lib.hid (HB1.out.trans hb)
  have HG2 := Lib.hid hg
  clear ho hb hg a0 a1 a2 a3 a4 a5 a6 a7 a8 a9 a10 a11 HX1 HO1
  obtain ⟨a0, a1, a2, a3, a4, a5, a6, a7, a8, a9, a10, a11⟩ := HX2.out
  go_wp2_with fail
  refine (markQ s.fl (mk3 s) v3 base w2 HO2.out.1.2.2.1 (by omega) k3).mono ?_
  rintro e w3 ⟨rfl, ho, hb, hg⟩
  rw [K4.out]
  have HO3 := Lib.hid (show OwnS w3 base v1 v2 v3 v4 (marks 1 s.rn.cs.length) (marksR (mk2 s) s.pe.length) (marksR (mk3 s) s.fl.length) s.ac from ⟨⟨HO2.out.1.1.kept hg (HO2.out.2.1.2.1), HO2.out.1.2.1.kept hg (HO2.out.2.2.1.1), ho, HO2.out.1.2.2.2.kept hg (HO2.out.2.2.2.symm)⟩, HO2.out.2⟩)
  have HX3 := Lib.hid (HX2.out.of (hg.block w.heap.size (by have := HZ.out; have := HB0.out.size; have := HS2.out; omega) (fun e => by have := HU.out.2.2.1 _ e.symm; omega)))
  have HS3 := Lib.hid (show w.heap.size + 1 ≤ w3.heap.size by have := hg.size; have := HZ.out; have := HS2.out; omega)
  have HB3 := Lib.hid (HB2.out.trans hb)
  have HG3 := Lib.hid hg
  clear ho hb hg a0 a1 a2 a3 a4 a5 a6 a7 a8 a9 a10 a11 HX2 HO2
  obtain ⟨a0, a1, a2, a3, a4, a5, a6, a7, a8, a9, a10, a11⟩ := HX3.out
  go_wp2_with fail
  refine (markQ s.ac (mk4 s) v4 base w3 HO3.out.1.2.2.2 (by omega) k4).mono ?_
  rintro e w4 ⟨rfl, ho, hb, hg⟩
  rw [K5.out]
  have HO4 := Lib.hid (show OwnS w4 base v1 v2 v3 v4 (marks 1 s.rn.cs.length) (marksR (mk2 s) s.pe.length) (marksR (mk3 s) s.fl.length) (marksR (mk4 s) s.ac.length) from ⟨⟨HO3.out.1.1.kept hg (HO3.out.2.1.2.2), HO3.out.1.2.1.kept hg (HO3.out.2.2.1.2), HO3.out.1.2.2.1.kept hg (HO3.out.2.2.2), ho⟩, HO3.out.2⟩)
  have HX4 := Lib.hid (HX3.out.of (hg.block w.heap.size (by have := HZ.out; have := HB0.out.size; have := HS3.out; omega) (fun e => by have := HU.out.2.2.2 _ e.symm; omega)))
  have HS4 := Lib.hid (show w.heap.size + 1 ≤ w4.heap.size by have := hg.size; have := HZ.out; have := HS3.out; omega)
  have HB4 := Lib.hid (HB3.out.trans hb)
  have HG4 := Lib.hid hg
  clear ho hb hg a0 a1 a2 a3 a4 a5 a6 a7 a8 a9 a10 a11 HX3 HO3
  go_wp2
  go_ret
  exact ⟨rfl, HO4.out, HB4.out, Four.of HG1.out HG2.out HG3.out HG4.out⟩

set_option maxRecDepth 100000 in
set_option maxHeartbeats 1000000 in
/-- laws.heldSender, of a sender that holds the marks. -/
theorem heldsn (s : Sn) (A1 A2 A3 A4 : Option Addr) (c1 c2 c3 c4 : Nat) (w : World) (h1 : Ints w w.heap.size A1 (marks 1 s.rn.cs.length)) (h2 : Rgs w w.heap.size A2 (marksR (mk2 s) s.pe.length)) (h3 : Rgs w w.heap.size A3 (marksR (mk3 s) s.fl.length)) (h4 : Rgs w w.heap.size A4 (marksR (mk4 s) s.ac.length)) (hn : s.rn.cs.length ≤ 10000000 ∧ s.pe.length ≤ 10000000 ∧ s.fl.length ≤ 10000000 ∧ s.ac.length ≤ 10000000) :
    Calls Try.prog 15 #[snV s (.slice A1 s.rn.cs.length c1) (.slice A2 s.pe.length c2) (.slice A3 s.fl.length c3) (.slice A4 s.ac.length c4), .int .i64 1] w fun e w' => e = .returned (.int .i64 (mk5 s)) ∧ Below w.heap.size w w' := by
  obtain ⟨n1, n2, n3, n4⟩ := hn
  have HX := Lib.hid (show CellS (w.alloc (.cells (snB s (.slice A1 s.rn.cs.length c1) (.slice A2 s.pe.length c2) (.slice A3 s.fl.length c3) (.slice A4 s.ac.length c4)) 35)) w.heap.size s (.slice A1 s.rn.cs.length c1) (.slice A2 s.pe.length c2) (.slice A3 s.fl.length c3) (.slice A4 s.ac.length c4) ∧ w.heap.size < (w.alloc (.cells (snB s (.slice A1 s.rn.cs.length c1) (.slice A2 s.pe.length c2) (.slice A3 s.fl.length c3) (.slice A4 s.ac.length c4)) 35)).heap.size ∧ Below w.heap.size w (w.alloc (.cells (snB s (.slice A1 s.rn.cs.length c1) (.slice A2 s.pe.length c2) (.slice A3 s.fl.length c3) (.slice A4 s.ac.length c4)) 35)) from ⟨Cell12.new w _ _ _ _ _ _ _ _ _ _ _ _ _, by simp, (Below.refl _ _).alloc (Nat.le_refl _) _⟩)
  have k2 : 0 ≤ mk2 s ∧ mk2 s ≤ 1000000000000 := by unfold mk2; omega
  have k3 : 0 ≤ mk3 s ∧ mk3 s ≤ 1000000000000 := by unfold mk3 mk2; omega
  have k4 : 0 ≤ mk4 s ∧ mk4 s ≤ 1000000000000 := by unfold mk4 mk3 mk2; omega
  have k5 : 0 ≤ mk5 s := by unfold mk5 mk4 mk3 mk2; omega
  have HC1 : Hid (∀ W, w.heap.size ≤ W.heap.size → Below w.heap.size w W → Calls Try.prog 44 #[rnV s.rn (.slice A1 s.rn.cs.length c1), .int .i64 1] W fun e w' => e = .returned (.int .i64 (mk2 s)) ∧ Below W.heap.size W w') := Lib.hid fun W a b => heldrn s.rn s.rn.cs.length A1 c1 W.heap.size W (Nat.le_refl _) ((h1.below (Nat.le_refl _) b).up a) (by omega)
  have HC2 : Hid (∀ W, w.heap.size ≤ W.heap.size → Below w.heap.size w W → Calls Try.prog 45 #[(.slice A2 s.pe.length c2), .int .i64 (mk2 s)] W fun e w' => e = .returned (.int .i64 (mk3 s)) ∧ w' = W) := Lib.hid fun W a b => heldP (mk2 s) s.pe.length A2 c2 W.heap.size W ((h2.below (Nat.le_refl _) b).up a) (by omega) k2
  have HC3 : Hid (∀ W, w.heap.size ≤ W.heap.size → Below w.heap.size w W → Calls Try.prog 45 #[(.slice A3 s.fl.length c3), .int .i64 (mk3 s)] W fun e w' => e = .returned (.int .i64 (mk4 s)) ∧ w' = W) := Lib.hid fun W a b => heldP (mk3 s) s.fl.length A3 c3 W.heap.size W ((h3.below (Nat.le_refl _) b).up a) (by omega) k3
  have HC4 : Hid (∀ W, w.heap.size ≤ W.heap.size → Below w.heap.size w W → Calls Try.prog 45 #[(.slice A4 s.ac.length c4), .int .i64 (mk4 s)] W fun e w' => e = .returned (.int .i64 (mk5 s)) ∧ w' = W) := Lib.hid fun W a b => heldP (mk4 s) s.ac.length A4 c4 W.heap.size W ((h4.below (Nat.le_refl _) b).up a) (by omega) k4
  have e2 : decide (mk2 s < 0) = false := decide_eq_false (by omega)
  have e3 : decide (mk3 s < 0) = false := decide_eq_false (by omega)
  have e4 : decide (mk4 s < 0) = false := decide_eq_false (by omega)
  have e5 : decide (mk5 s < 0) = false := decide_eq_false (by omega)
  clear h1 h2 h3 h4
  generalize mk2 s = m2 at *
  generalize mk3 s = m3 at *
  generalize mk4 s = m4 at *
  generalize mk5 s = m5 at *
  clear k2 k3 k4 k5 n1 n2 n3 n4
  go_enter Try.func15, Try.ntmps15
  go_wp2_with fail
  refine (HC1.out _ (Nat.le_of_lt HX.out.2.1) HX.out.2.2).mono ?_
  rintro e w1 ⟨rfl, hb⟩
  have H1 := Lib.hid (show CellS w1 w.heap.size s (.slice A1 s.rn.cs.length c1) (.slice A2 s.pe.length c2) (.slice A3 s.fl.length c3) (.slice A4 s.ac.length c4) ∧ w.heap.size < w1.heap.size ∧ Below w.heap.size w w1 from ⟨HX.out.1.below hb HX.out.2.1, Nat.lt_of_lt_of_le HX.out.2.1 hb.size, HX.out.2.2.trans (hb.mono (Nat.le_of_lt HX.out.2.1))⟩)
  clear hb HX HC1
  obtain ⟨a0, a1, a2, a3, a4, a5, a6, a7, a8, a9, a10, a11⟩ := H1.out.1
  go_wp2_with fail
  refine (HC2.out _ (Nat.le_of_lt H1.out.2.1) H1.out.2.2).mono ?_
  rintro e w2 ⟨rfl, rfl⟩
  go_wp2_with fail
  refine (HC3.out _ (Nat.le_of_lt H1.out.2.1) H1.out.2.2).mono ?_
  rintro e w3 ⟨rfl, rfl⟩
  go_wp2_with fail
  refine (HC4.out _ (Nat.le_of_lt H1.out.2.1) H1.out.2.2).mono ?_
  rintro e w4 ⟨rfl, rfl⟩
  go_wp2
  go_ret
  exact ⟨rfl, H1.out.2.2⟩
end Go.Proofs.Ytjohbfdifdjldac

namespace Go.Proofs.Ytjohbfdifdjldac
open Go.RowKit Go.Deep Go.Proofs.Ytjohbfdifdjldac.Num

theorem row_set {w : World} {g : Nat} {cs : Array Value} {t : TypeId} (x : w.heap[g]? = some (.cells cs t (0, 0))) (k : Nat) (v : Value) : (w.setCell ⟨g, k, none⟩ v).heap[g]? = some (.cells (cs.setIfInBounds k v) t (0, 0)) := by
  simp [World.setCell, Array.getElem?_modify, x]
/-- While a sender is copied: the argument in block n, the result in n + 1, the copy in n + 2. -/
def CopS (w0 : World) (n : Nat) (s : Sn) (v1 v2 v3 v4 : Value) (cs : Array Value) (W : World) : Prop :=
  CellS W n s v1 v2 v3 v4 ∧ W.heap[n + 1]? = some (.cells (snC 0 0 0 0 (.slice none 0 0) (.slice none 0 0) (.slice none 0 0) (.slice none 0 0) 0 0 0 0) 35 (0, 0)) ∧ W.heap[n + 1 + 1]? = some (.cells cs 35 (0, 0)) ∧ n + 1 + 1 < W.heap.size ∧ Below n w0 W
theorem CopS.next {w0 : World} {n : Nat} {s : Sn} {v1 v2 v3 v4 : Value} {cs : Array Value} {W W' : World} (h : CopS w0 n s v1 v2 v3 v4 cs W) (hb : Below W.heap.size W W') : CopS w0 n s v1 v2 v3 v4 cs W' := by
  have h0 := h.2.2.2.1
  exact ⟨h.1.below hb (by omega), (hb.block _ (by omega)).trans h.2.1, (hb.block _ (by omega)).trans h.2.2.1, Nat.lt_of_lt_of_le h0 hb.size, h.2.2.2.2.trans (hb.mono (by omega))⟩
theorem CopS.set {w0 : World} {n : Nat} {s : Sn} {v1 v2 v3 v4 : Value} {cs : Array Value} {W : World} (h : CopS w0 n s v1 v2 v3 v4 cs W) (k : Nat) (y : Value) : CopS w0 n s v1 v2 v3 v4 (cs.setIfInBounds k y) (W.setCell ⟨n + 1 + 1, k, none⟩ y) := by
  have h0 := h.2.2.2.1
  exact ⟨h.1.of (Below.heap_setCell W ⟨n + 1 + 1, k, none⟩ y n (by show n ≠ n + 1 + 1; omega)), (Below.heap_setCell W ⟨n + 1 + 1, k, none⟩ y (n + 1) (by show n + 1 ≠ n + 1 + 1; omega)).trans h.2.1, row_set h.2.2.1 k y, by simpa [World.setCell] using h0, h.2.2.2.2.setCell (p := ⟨n + 1 + 1, k, none⟩) (by show n ≤ n + 1 + 1; omega) _⟩
theorem CopS.free {w0 : World} {n : Nat} {s : Sn} {v1 v2 v3 v4 : Value} {cs : Array Value} {W : World} (h : CopS w0 n s v1 v2 v3 v4 cs W) (k : Nat) : W.frozen? ⟨n + 1 + 1, k, none⟩ = false := by
  simp [World.frozen?, h.2.2.1]
theorem CopS.free1 {w0 : World} {n : Nat} {s : Sn} {v1 v2 v3 v4 : Value} {cs : Array Value} {W : World} (h : CopS w0 n s v1 v2 v3 v4 cs W) (k : Nat) : W.frozen? ⟨n + 1, k, none⟩ = false := by
  simp [World.frozen?, h.2.1]
/-- A sender is laid into block g. -/
abbrev put12 (W : World) (g : Nat) (s : Sn) (v1 v2 v3 v4 : Value) : World :=
  (((((((((((W.setCell ⟨g, 0, none⟩ (.int .i64 s.st)).setCell ⟨g, 1, none⟩ (.int .i64 s.rn.size)).setCell ⟨g, 2, none⟩ (.int .i64 s.rn.base)).setCell ⟨g, 3, none⟩ (.int .i64 s.rn.en)).setCell ⟨g, 4, none⟩ v1).setCell ⟨g, 5, none⟩ v2).setCell ⟨g, 6, none⟩ v3).setCell ⟨g, 7, none⟩ v4).setCell ⟨g, 8, none⟩ (.int .i64 s.fin)).setCell ⟨g, 9, none⟩ (.int .i64 s.fi)).setCell ⟨g, 10, none⟩ (.int .i64 s.sent)).setCell ⟨g, 11, none⟩ (.int .i64 s.code)
theorem set12 (a0 a1 a2 a3 a4 a5 a6 a7 a8 a9 a10 a11 b0 b1 b2 b3 b4 b5 b6 b7 b8 b9 b10 b11 : Value) :
    (((((((((((((#[a0, a1, a2, a3, a4, a5, a6, a7, a8, a9, a10, a11] : Array Value).setIfInBounds 0 b0).setIfInBounds 1 b1).setIfInBounds 2 b2).setIfInBounds 3 b3).setIfInBounds 4 b4).setIfInBounds 5 b5).setIfInBounds 6 b6).setIfInBounds 7 b7).setIfInBounds 8 b8).setIfInBounds 9 b9).setIfInBounds 10 b10).setIfInBounds 11 b11) = #[b0, b1, b2, b3, b4, b5, b6, b7, b8, b9, b10, b11] := by
  simp
theorem put12_row {W : World} {g : Nat} {t : TypeId} {a0 a1 a2 a3 a4 a5 a6 a7 a8 a9 a10 a11 : Value} (x : W.heap[g]? = some (.cells #[a0, a1, a2, a3, a4, a5, a6, a7, a8, a9, a10, a11] t (0, 0))) (s : Sn) (v1 v2 v3 v4 : Value) :
    (put12 W g s v1 v2 v3 v4).heap[g]? = some (.cells (snB s v1 v2 v3 v4) t (0, 0)) := by
  have h := row_set (row_set (row_set (row_set (row_set (row_set (row_set (row_set (row_set (row_set (row_set (row_set x 0 (.int .i64 s.st)) 1 (.int .i64 s.rn.size)) 2 (.int .i64 s.rn.base)) 3 (.int .i64 s.rn.en)) 4 v1) 5 v2) 6 v3) 7 v4) 8 (.int .i64 s.fin)) 9 (.int .i64 s.fi)) 10 (.int .i64 s.sent)) 11 (.int .i64 s.code)
  rw [set12] at h
  exact h
theorem put12_own {W : World} {B g : Nat} {u1 u2 u3 u4 : Value} {l1 : List Int} {l2 l3 l4 : List Rg} (h : OwnS W B u1 u2 u3 u4 l1 l2 l3 l4) (hg : g < B) (s : Sn) (v1 v2 v3 v4 : Value) : OwnS (put12 W g s v1 v2 v3 v4) B u1 u2 u3 u4 l1 l2 l3 l4 :=
  (((((((((((h.apart g 0 _ hg).apart g 1 _ hg).apart g 2 _ hg).apart g 3 _ hg).apart g 4 _ hg).apart g 5 _ hg).apart g 6 _ hg).apart g 7 _ hg).apart g 8 _ hg).apart g 9 _ hg).apart g 10 _ hg).apart g 11 _ hg
theorem put12_below {a W : World} {B g : Nat} (h : Below B a W) (hg : B ≤ g) (s : Sn) (v1 v2 v3 v4 : Value) : Below B a (put12 W g s v1 v2 v3 v4) :=
  (((((((((((h.setCell (p := ⟨g, 0, none⟩) hg _).setCell (p := ⟨g, 1, none⟩) hg _).setCell (p := ⟨g, 2, none⟩) hg _).setCell (p := ⟨g, 3, none⟩) hg _).setCell (p := ⟨g, 4, none⟩) hg _).setCell (p := ⟨g, 5, none⟩) hg _).setCell (p := ⟨g, 6, none⟩) hg _).setCell (p := ⟨g, 7, none⟩) hg _).setCell (p := ⟨g, 8, none⟩) hg _).setCell (p := ⟨g, 9, none⟩) hg _).setCell (p := ⟨g, 10, none⟩) hg _).setCell (p := ⟨g, 11, none⟩) hg _
theorem rowS_cells {w : World} {g : Nat} {st sz b e : Int} {v1 v2 v3 v4 : Value} {fin fi sent code : Int} {t : TypeId} {fr : Nat × Nat} (x : w.heap[g]? = some (.cells (snC st sz b e v1 v2 v3 v4 fin fi sent code) t fr)) : Cell12 w g st sz b e v1 v2 v3 v4 fin fi sent code :=
  ⟨cell_of_row w g 0 _ _ _ x, cell_of_row w g 1 _ _ _ x, cell_of_row w g 2 _ _ _ x, cell_of_row w g 3 _ _ _ x, cell_of_row w g 4 _ _ _ x, cell_of_row w g 5 _ _ _ x, cell_of_row w g 6 _ _ _ x, cell_of_row w g 7 _ _ _ x, cell_of_row w g 8 _ _ _ x, cell_of_row w g 9 _ _ _ x, cell_of_row w g 10 _ _ _ x, cell_of_row w g 11 _ _ _ x⟩
set_option maxRecDepth 100000 in
set_option maxHeartbeats 2000000 in
/-- laws.toSender: a copy, in new blocks. -/
theorem tosn (s : Sn) (A1 A2 A3 A4 : Option Addr) (c1 c2 c3 c4 : Nat) (w : World) (hr : ReadS w w.heap.size A1 A2 A3 A4 s) (hn : s.rn.cs.length ≤ 1048576 ∧ s.pe.length ≤ 1048576 ∧ s.fl.length ≤ 1048576 ∧ s.ac.length ≤ 1048576) :
    Calls Try.prog 10 #[snV s (.slice A1 s.rn.cs.length c1) (.slice A2 s.pe.length c2) (.slice A3 s.fl.length c3) (.slice A4 s.ac.length c4)] w fun e w' => ∃ g1 g2 g3 g4 : Nat, e = .returned (snV s (.slice (some ⟨g1, 0, none⟩) s.rn.cs.length s.rn.cs.length) (.slice (some ⟨g2, 0, none⟩) s.pe.length s.pe.length) (.slice (some ⟨g3, 0, none⟩) s.fl.length s.fl.length) (.slice (some ⟨g4, 0, none⟩) s.ac.length s.ac.length)) ∧ OwnSn w' w.heap.size (.slice (some ⟨g1, 0, none⟩) s.rn.cs.length s.rn.cs.length) (.slice (some ⟨g2, 0, none⟩) s.pe.length s.pe.length) (.slice (some ⟨g3, 0, none⟩) s.fl.length s.fl.length) (.slice (some ⟨g4, 0, none⟩) s.ac.length s.ac.length) s ∧ Below w.heap.size w w' := by
  obtain ⟨n1, n2, n3, n4⟩ := hn
  have HR := Lib.hid hr
  clear hr
  have s1 : ∀ o1, (w.alloc o1).heap.size = w.heap.size + 1 := fun _ => by simp
  have s2 : ∀ o1 o2, ((w.alloc o1).alloc o2).heap.size = w.heap.size + 2 := fun _ _ => by simp
  have s3 : ∀ o1 o2 o3, (((w.alloc o1).alloc o2).alloc o3).heap.size = w.heap.size + 3 := fun _ _ _ => by simp
  have b1 := (Below.refl w.heap.size w).alloc (Nat.le_refl _) (.cells (snB s (.slice A1 s.rn.cs.length c1) (.slice A2 s.pe.length c2) (.slice A3 s.fl.length c3) (.slice A4 s.ac.length c4)) 27)
  have b2 := (Below.refl (w.heap.size + 1) (w.alloc (.cells (snB s (.slice A1 s.rn.cs.length c1) (.slice A2 s.pe.length c2) (.slice A3 s.fl.length c3) (.slice A4 s.ac.length c4)) 27))).alloc (by simp) (.cells (snC 0 0 0 0 (.slice none 0 0) (.slice none 0 0) (.slice none 0 0) (.slice none 0 0) 0 0 0 0) 35)
  have b3 := (Below.refl (w.heap.size + 2) ((w.alloc (.cells (snB s (.slice A1 s.rn.cs.length c1) (.slice A2 s.pe.length c2) (.slice A3 s.fl.length c3) (.slice A4 s.ac.length c4)) 27)).alloc (.cells (snC 0 0 0 0 (.slice none 0 0) (.slice none 0 0) (.slice none 0 0) (.slice none 0 0) 0 0 0 0) 35))).alloc (by simp) (.cells (snC s.st 0 0 0 (.slice none 0 0) (.slice none 0 0) (.slice none 0 0) (.slice none 0 0) 0 0 0 0) 35)
  have x1 := heap_alloc_new (w.alloc (.cells (snB s (.slice A1 s.rn.cs.length c1) (.slice A2 s.pe.length c2) (.slice A3 s.fl.length c3) (.slice A4 s.ac.length c4)) 27)) (.cells (snC 0 0 0 0 (.slice none 0 0) (.slice none 0 0) (.slice none 0 0) (.slice none 0 0) 0 0 0 0) 35)
  have x2 := heap_alloc_new ((w.alloc (.cells (snB s (.slice A1 s.rn.cs.length c1) (.slice A2 s.pe.length c2) (.slice A3 s.fl.length c3) (.slice A4 s.ac.length c4)) 27)).alloc (.cells (snC 0 0 0 0 (.slice none 0 0) (.slice none 0 0) (.slice none 0 0) (.slice none 0 0) 0 0 0 0) 35)) (.cells (snC s.st 0 0 0 (.slice none 0 0) (.slice none 0 0) (.slice none 0 0) (.slice none 0 0) 0 0 0 0) 35)
  rw [s1] at x1
  rw [s2] at x2
  have HC0 := Lib.hid (show CopS w w.heap.size s (.slice A1 s.rn.cs.length c1) (.slice A2 s.pe.length c2) (.slice A3 s.fl.length c3) (.slice A4 s.ac.length c4) (snC s.st 0 0 0 (.slice none 0 0) (.slice none 0 0) (.slice none 0 0) (.slice none 0 0) 0 0 0 0) (((w.alloc (.cells (snB s (.slice A1 s.rn.cs.length c1) (.slice A2 s.pe.length c2) (.slice A3 s.fl.length c3) (.slice A4 s.ac.length c4)) 27)).alloc (.cells (snC 0 0 0 0 (.slice none 0 0) (.slice none 0 0) (.slice none 0 0) (.slice none 0 0) 0 0 0 0) 35)).alloc (.cells (snC s.st 0 0 0 (.slice none 0 0) (.slice none 0 0) (.slice none 0 0) (.slice none 0 0) 0 0 0 0) 35)) from ⟨((Cell12.new w _ _ _ _ _ _ _ _ _ _ _ _ _).below b2 (Nat.lt_succ_self _)).below b3 (by omega), (b3.block _ (by omega)).trans x1, x2, by rw [s3]; omega, (b1.trans (b2.mono (by omega))).trans (b3.mono (by omega))⟩)
  have HS := Lib.hid (s3 (.cells (snB s (.slice A1 s.rn.cs.length c1) (.slice A2 s.pe.length c2) (.slice A3 s.fl.length c3) (.slice A4 s.ac.length c4)) 27) (.cells (snC 0 0 0 0 (.slice none 0 0) (.slice none 0 0) (.slice none 0 0) (.slice none 0 0) 0 0 0 0) 35) (.cells (snC s.st 0 0 0 (.slice none 0 0) (.slice none 0 0) (.slice none 0 0) (.slice none 0 0) 0 0 0 0) 35))
  clear s1 s2 s3 b1 b2 b3 x1 x2
  go_enter Try.func10, Try.ntmps10
  go_wp2_with fail
  generalize ((w.alloc (.cells (snB s (.slice A1 s.rn.cs.length c1) (.slice A2 s.pe.length c2) (.slice A3 s.fl.length c3) (.slice A4 s.ac.length c4)) 27)).alloc (.cells (snC 0 0 0 0 (.slice none 0 0) (.slice none 0 0) (.slice none 0 0) (.slice none 0 0) 0 0 0 0) 35)).alloc (.cells (snC s.st 0 0 0 (.slice none 0 0) (.slice none 0 0) (.slice none 0 0) (.slice none 0 0) 0 0 0 0) 35) = w0 at *
  refine (torn s.rn A1 c1 w0.heap.size w0 (Nat.le_refl _) ((HR.out.below (Nat.le_refl _) HC0.out.2.2.2.2).up HC0.out.2.2.2.2.size).1 n1).mono ?_
  rintro e w1 ⟨g1, rfl, ho, hb⟩
  have hlt := ho.lt g1 rfl
  have hbs := HC0.out.2.2.2.1
  have HCn := Lib.hid (HC0.out.next hb)
  obtain ⟨a0, a1, a2, a3, a4, a5, a6, a7, a8, a9, a10, a11⟩ := HCn.out.1
  obtain ⟨p0, p1, p2, p3, p4, p5, p6, p7, p8, p9, p10, p11⟩ := rowS_cells HCn.out.2.2.1
  have ff := HCn.out.free
  have HC1 := Lib.hid (show CopS w w.heap.size s (.slice A1 s.rn.cs.length c1) (.slice A2 s.pe.length c2) (.slice A3 s.fl.length c3) (.slice A4 s.ac.length c4) (snC s.st s.rn.size s.rn.base s.rn.en (.slice (some ⟨g1, 0, none⟩) s.rn.cs.length s.rn.cs.length) (.slice none 0 0) (.slice none 0 0) (.slice none 0 0) 0 0 0 0) ((((w1.setCell ⟨w.heap.size + 1 + 1, 1, none⟩ (.int .i64 s.rn.size)).setCell ⟨w.heap.size + 1 + 1, 2, none⟩ (.int .i64 s.rn.base)).setCell ⟨w.heap.size + 1 + 1, 3, none⟩ (.int .i64 s.rn.en)).setCell ⟨w.heap.size + 1 + 1, 4, none⟩ (.slice (some ⟨g1, 0, none⟩) s.rn.cs.length s.rn.cs.length)) from ((((HCn.out).set 1 (.int .i64 s.rn.size)).set 2 (.int .i64 s.rn.base)).set 3 (.int .i64 s.rn.en)).set 4 (.slice (some ⟨g1, 0, none⟩) s.rn.cs.length s.rn.cs.length))
  have HO1_1 := Lib.hid ((((((ho.weaken (base' := w.heap.size + 3) (by omega))).apart (w.heap.size + 1 + 1) 1 (.int .i64 s.rn.size) (by omega)).apart (w.heap.size + 1 + 1) 2 (.int .i64 s.rn.base) (by omega)).apart (w.heap.size + 1 + 1) 3 (.int .i64 s.rn.en) (by omega)).apart (w.heap.size + 1 + 1) 4 (.slice (some ⟨g1, 0, none⟩) s.rn.cs.length s.rn.cs.length) (by omega))
  have HL1 := Lib.hid (show g1 < ((((w1.setCell ⟨w.heap.size + 1 + 1, 1, none⟩ (.int .i64 s.rn.size)).setCell ⟨w.heap.size + 1 + 1, 2, none⟩ (.int .i64 s.rn.base)).setCell ⟨w.heap.size + 1 + 1, 3, none⟩ (.int .i64 s.rn.en)).setCell ⟨w.heap.size + 1 + 1, 4, none⟩ (.slice (some ⟨g1, 0, none⟩) s.rn.cs.length s.rn.cs.length)).heap.size by simpa [World.setCell] using hlt.2)
  clear ho hb hlt hbs HC0 
  go_wp2_with fail
  clear HCn ff a0 a1 a2 a3 a4 a5 a6 a7 a8 a9 a10 a11 p0 p1 p2 p3 p4 p5 p6 p7 p8 p9 p10 p11
  obtain ⟨W1, hW⟩ : ∃ W, ((((w1.setCell ⟨w.heap.size + 1 + 1, 1, none⟩ (.int .i64 s.rn.size)).setCell ⟨w.heap.size + 1 + 1, 2, none⟩ (.int .i64 s.rn.base)).setCell ⟨w.heap.size + 1 + 1, 3, none⟩ (.int .i64 s.rn.en)).setCell ⟨w.heap.size + 1 + 1, 4, none⟩ (.slice (some ⟨g1, 0, none⟩) s.rn.cs.length s.rn.cs.length)) = W := ⟨_, rfl⟩
  rw [hW] at HC1 HO1_1 HL1
  rw [hW]
  clear hW
  refine (toranges s.pe A2 c2 W1.heap.size W1 (Nat.le_refl _) ((HR.out.below (Nat.le_refl _) HC1.out.2.2.2.2).up HC1.out.2.2.2.2.size).2.1 n2).mono ?_
  rintro e w2 ⟨rfl, hrow, hb⟩
  have ho := hrow.own.p
  obtain ⟨g2, hg2⟩ : ∃ g, g = W1.heap.size := ⟨_, rfl⟩
  rw [← hg2] at ho
  rw [← hg2]
  have HG2 := Lib.hid hg2
  clear hg2
  have hlt := ho.lt g2 rfl
  have hbs := HC1.out.2.2.2.1
  have HCn := Lib.hid (HC1.out.next hb)
  obtain ⟨a0, a1, a2, a3, a4, a5, a6, a7, a8, a9, a10, a11⟩ := HCn.out.1
  obtain ⟨p0, p1, p2, p3, p4, p5, p6, p7, p8, p9, p10, p11⟩ := rowS_cells HCn.out.2.2.1
  have ff := HCn.out.free
  have HC2 := Lib.hid (show CopS w w.heap.size s (.slice A1 s.rn.cs.length c1) (.slice A2 s.pe.length c2) (.slice A3 s.fl.length c3) (.slice A4 s.ac.length c4) (snC s.st s.rn.size s.rn.base s.rn.en (.slice (some ⟨g1, 0, none⟩) s.rn.cs.length s.rn.cs.length) (.slice (some ⟨g2, 0, none⟩) s.pe.length s.pe.length) (.slice none 0 0) (.slice none 0 0) 0 0 0 0) (w2.setCell ⟨w.heap.size + 1 + 1, 5, none⟩ (.slice (some ⟨g2, 0, none⟩) s.pe.length s.pe.length)) from (HCn.out).set 5 (.slice (some ⟨g2, 0, none⟩) s.pe.length s.pe.length))
  have HO1_2 := Lib.hid (((HO1_1.out.later hb)).apart (w.heap.size + 1 + 1) 5 (.slice (some ⟨g2, 0, none⟩) s.pe.length s.pe.length) (by omega))
  have HO2_2 := Lib.hid (((ho.weaken (base' := w.heap.size + 3) (by have := HG2.out; omega))).apart (w.heap.size + 1 + 1) 5 (.slice (some ⟨g2, 0, none⟩) s.pe.length s.pe.length) (by omega))
  have HL2 := Lib.hid (show g2 < (w2.setCell ⟨w.heap.size + 1 + 1, 5, none⟩ (.slice (some ⟨g2, 0, none⟩) s.pe.length s.pe.length)).heap.size by simpa [World.setCell] using hlt.2)
  have HD1_2 := Lib.hid (show g1 < g2 by have := HL1.out; have := HG2.out; omega)
  clear ho hb hlt hbs HC1 HO1_1 hrow
  have HL1 := Lib.hid (show g1 < (w2.setCell ⟨w.heap.size + 1 + 1, 5, none⟩ (.slice (some ⟨g2, 0, none⟩) s.pe.length s.pe.length)).heap.size by have := HD1_2.out; have := HL2.out; omega)
  go_wp2_with fail
  clear HCn ff a0 a1 a2 a3 a4 a5 a6 a7 a8 a9 a10 a11 p0 p1 p2 p3 p4 p5 p6 p7 p8 p9 p10 p11
  obtain ⟨W2, hW⟩ : ∃ W, (w2.setCell ⟨w.heap.size + 1 + 1, 5, none⟩ (.slice (some ⟨g2, 0, none⟩) s.pe.length s.pe.length)) = W := ⟨_, rfl⟩
  rw [hW] at HC2 HO1_2 HO2_2 HL1 HL2
  rw [hW]
  clear hW
  refine (toranges s.fl A3 c3 W2.heap.size W2 (Nat.le_refl _) ((HR.out.below (Nat.le_refl _) HC2.out.2.2.2.2).up HC2.out.2.2.2.2.size).2.2.1 n3).mono ?_
  rintro e w3 ⟨rfl, hrow, hb⟩
  have ho := hrow.own.p
  obtain ⟨g3, hg3⟩ : ∃ g, g = W2.heap.size := ⟨_, rfl⟩
  rw [← hg3] at ho
  rw [← hg3]
  have HG3 := Lib.hid hg3
  clear hg3
  have hlt := ho.lt g3 rfl
  have hbs := HC2.out.2.2.2.1
  have HCn := Lib.hid (HC2.out.next hb)
  obtain ⟨a0, a1, a2, a3, a4, a5, a6, a7, a8, a9, a10, a11⟩ := HCn.out.1
  obtain ⟨p0, p1, p2, p3, p4, p5, p6, p7, p8, p9, p10, p11⟩ := rowS_cells HCn.out.2.2.1
  have ff := HCn.out.free
  have HC3 := Lib.hid (show CopS w w.heap.size s (.slice A1 s.rn.cs.length c1) (.slice A2 s.pe.length c2) (.slice A3 s.fl.length c3) (.slice A4 s.ac.length c4) (snC s.st s.rn.size s.rn.base s.rn.en (.slice (some ⟨g1, 0, none⟩) s.rn.cs.length s.rn.cs.length) (.slice (some ⟨g2, 0, none⟩) s.pe.length s.pe.length) (.slice (some ⟨g3, 0, none⟩) s.fl.length s.fl.length) (.slice none 0 0) 0 0 0 0) (w3.setCell ⟨w.heap.size + 1 + 1, 6, none⟩ (.slice (some ⟨g3, 0, none⟩) s.fl.length s.fl.length)) from (HCn.out).set 6 (.slice (some ⟨g3, 0, none⟩) s.fl.length s.fl.length))
  have HO1_3 := Lib.hid (((HO1_2.out.later hb)).apart (w.heap.size + 1 + 1) 6 (.slice (some ⟨g3, 0, none⟩) s.fl.length s.fl.length) (by omega))
  have HO2_3 := Lib.hid (((HO2_2.out.later hb)).apart (w.heap.size + 1 + 1) 6 (.slice (some ⟨g3, 0, none⟩) s.fl.length s.fl.length) (by omega))
  have HO3_3 := Lib.hid (((ho.weaken (base' := w.heap.size + 3) (by have := HG3.out; omega))).apart (w.heap.size + 1 + 1) 6 (.slice (some ⟨g3, 0, none⟩) s.fl.length s.fl.length) (by omega))
  have HL3 := Lib.hid (show g3 < (w3.setCell ⟨w.heap.size + 1 + 1, 6, none⟩ (.slice (some ⟨g3, 0, none⟩) s.fl.length s.fl.length)).heap.size by simpa [World.setCell] using hlt.2)
  have HD1_3 := Lib.hid (show g1 < g3 by have := HL1.out; have := HG3.out; omega)
  have HD2_3 := Lib.hid (show g2 < g3 by have := HL2.out; have := HG3.out; omega)
  clear ho hb hlt hbs HC2 HO1_2 HO2_2 hrow
  have HL1 := Lib.hid (show g1 < (w3.setCell ⟨w.heap.size + 1 + 1, 6, none⟩ (.slice (some ⟨g3, 0, none⟩) s.fl.length s.fl.length)).heap.size by have := HD1_3.out; have := HL3.out; omega)
  have HL2 := Lib.hid (show g2 < (w3.setCell ⟨w.heap.size + 1 + 1, 6, none⟩ (.slice (some ⟨g3, 0, none⟩) s.fl.length s.fl.length)).heap.size by have := HD2_3.out; have := HL3.out; omega)
  go_wp2_with fail
  clear HCn ff a0 a1 a2 a3 a4 a5 a6 a7 a8 a9 a10 a11 p0 p1 p2 p3 p4 p5 p6 p7 p8 p9 p10 p11
  obtain ⟨W3, hW⟩ : ∃ W, (w3.setCell ⟨w.heap.size + 1 + 1, 6, none⟩ (.slice (some ⟨g3, 0, none⟩) s.fl.length s.fl.length)) = W := ⟨_, rfl⟩
  rw [hW] at HC3 HO1_3 HO2_3 HO3_3 HL1 HL2 HL3
  rw [hW]
  clear hW
  refine (toranges s.ac A4 c4 W3.heap.size W3 (Nat.le_refl _) ((HR.out.below (Nat.le_refl _) HC3.out.2.2.2.2).up HC3.out.2.2.2.2.size).2.2.2 n4).mono ?_
  rintro e w4 ⟨rfl, hrow, hb⟩
  have ho := hrow.own.p
  obtain ⟨g4, hg4⟩ : ∃ g, g = W3.heap.size := ⟨_, rfl⟩
  rw [← hg4] at ho
  rw [← hg4]
  have HG4 := Lib.hid hg4
  clear hg4
  have hlt := ho.lt g4 rfl
  have hbs := HC3.out.2.2.2.1
  have HCn := Lib.hid (HC3.out.next hb)
  obtain ⟨a0, a1, a2, a3, a4, a5, a6, a7, a8, a9, a10, a11⟩ := HCn.out.1
  obtain ⟨p0, p1, p2, p3, p4, p5, p6, p7, p8, p9, p10, p11⟩ := rowS_cells HCn.out.2.2.1
  have ff := HCn.out.free
  have HC4 := Lib.hid (show CopS w w.heap.size s (.slice A1 s.rn.cs.length c1) (.slice A2 s.pe.length c2) (.slice A3 s.fl.length c3) (.slice A4 s.ac.length c4) (snC s.st s.rn.size s.rn.base s.rn.en (.slice (some ⟨g1, 0, none⟩) s.rn.cs.length s.rn.cs.length) (.slice (some ⟨g2, 0, none⟩) s.pe.length s.pe.length) (.slice (some ⟨g3, 0, none⟩) s.fl.length s.fl.length) (.slice (some ⟨g4, 0, none⟩) s.ac.length s.ac.length) 0 0 0 0) (w4.setCell ⟨w.heap.size + 1 + 1, 7, none⟩ (.slice (some ⟨g4, 0, none⟩) s.ac.length s.ac.length)) from (HCn.out).set 7 (.slice (some ⟨g4, 0, none⟩) s.ac.length s.ac.length))
  have HO1_4 := Lib.hid (((HO1_3.out.later hb)).apart (w.heap.size + 1 + 1) 7 (.slice (some ⟨g4, 0, none⟩) s.ac.length s.ac.length) (by omega))
  have HO2_4 := Lib.hid (((HO2_3.out.later hb)).apart (w.heap.size + 1 + 1) 7 (.slice (some ⟨g4, 0, none⟩) s.ac.length s.ac.length) (by omega))
  have HO3_4 := Lib.hid (((HO3_3.out.later hb)).apart (w.heap.size + 1 + 1) 7 (.slice (some ⟨g4, 0, none⟩) s.ac.length s.ac.length) (by omega))
  have HO4_4 := Lib.hid (((ho.weaken (base' := w.heap.size + 3) (by have := HG4.out; omega))).apart (w.heap.size + 1 + 1) 7 (.slice (some ⟨g4, 0, none⟩) s.ac.length s.ac.length) (by omega))
  have HL4 := Lib.hid (show g4 < (w4.setCell ⟨w.heap.size + 1 + 1, 7, none⟩ (.slice (some ⟨g4, 0, none⟩) s.ac.length s.ac.length)).heap.size by simpa [World.setCell] using hlt.2)
  have HD1_4 := Lib.hid (show g1 < g4 by have := HL1.out; have := HG4.out; omega)
  have HD2_4 := Lib.hid (show g2 < g4 by have := HL2.out; have := HG4.out; omega)
  have HD3_4 := Lib.hid (show g3 < g4 by have := HL3.out; have := HG4.out; omega)
  clear ho hb hlt hbs HC3 HO1_3 HO2_3 HO3_3 hrow
  have HL1 := Lib.hid (show g1 < (w4.setCell ⟨w.heap.size + 1 + 1, 7, none⟩ (.slice (some ⟨g4, 0, none⟩) s.ac.length s.ac.length)).heap.size by have := HD1_4.out; have := HL4.out; omega)
  have HL2 := Lib.hid (show g2 < (w4.setCell ⟨w.heap.size + 1 + 1, 7, none⟩ (.slice (some ⟨g4, 0, none⟩) s.ac.length s.ac.length)).heap.size by have := HD2_4.out; have := HL4.out; omega)
  have HL3 := Lib.hid (show g3 < (w4.setCell ⟨w.heap.size + 1 + 1, 7, none⟩ (.slice (some ⟨g4, 0, none⟩) s.ac.length s.ac.length)).heap.size by have := HD3_4.out; have := HL4.out; omega)
  have f1 := HCn.out.free1
  obtain ⟨z0, z1, z2, z3, z4, z5, z6, z7, z8, z9, z10, z11⟩ := rowS_cells HCn.out.2.1
  have HFr1 : ∀ k, k < 12 → True := fun _ _ => trivial
  clear HFr1
  have HC5 := Lib.hid (show CopS w w.heap.size s (.slice A1 s.rn.cs.length c1) (.slice A2 s.pe.length c2) (.slice A3 s.fl.length c3) (.slice A4 s.ac.length c4) (snC s.st s.rn.size s.rn.base s.rn.en (.slice (some ⟨g1, 0, none⟩) s.rn.cs.length s.rn.cs.length) (.slice (some ⟨g2, 0, none⟩) s.pe.length s.pe.length) (.slice (some ⟨g3, 0, none⟩) s.fl.length s.fl.length) (.slice (some ⟨g4, 0, none⟩) s.ac.length s.ac.length) s.fin s.fi s.sent s.code) (((((w4.setCell ⟨w.heap.size + 1 + 1, 7, none⟩ (.slice (some ⟨g4, 0, none⟩) s.ac.length s.ac.length)).setCell ⟨w.heap.size + 1 + 1, 8, none⟩ (.int .i64 s.fin)).setCell ⟨w.heap.size + 1 + 1, 9, none⟩ (.int .i64 s.fi)).setCell ⟨w.heap.size + 1 + 1, 10, none⟩ (.int .i64 s.sent)).setCell ⟨w.heap.size + 1 + 1, 11, none⟩ (.int .i64 s.code)) from ((((HC4.out).set 8 (.int .i64 s.fin)).set 9 (.int .i64 s.fi)).set 10 (.int .i64 s.sent)).set 11 (.int .i64 s.code))
  have HOW0 := Lib.hid (show OwnSn (w4.setCell ⟨w.heap.size + 1 + 1, 7, none⟩ (.slice (some ⟨g4, 0, none⟩) s.ac.length s.ac.length)) (w.heap.size + 3) (.slice (some ⟨g1, 0, none⟩) s.rn.cs.length s.rn.cs.length) (.slice (some ⟨g2, 0, none⟩) s.pe.length s.pe.length) (.slice (some ⟨g3, 0, none⟩) s.fl.length s.fl.length) (.slice (some ⟨g4, 0, none⟩) s.ac.length s.ac.length) s from ⟨⟨HO1_4.out, HO2_4.out, HO3_4.out, HO4_4.out⟩, ⟨.inr (fun e => by have := HD1_2.out; have h9 : g1 = g2 := Option.some.inj e; omega), .inr (fun e => by have := HD1_3.out; have h9 : g1 = g3 := Option.some.inj e; omega), .inr (fun e => by have := HD1_4.out; have h9 : g1 = g4 := Option.some.inj e; omega)⟩, ⟨.inr (fun e => by have := HD2_3.out; have h9 : g2 = g3 := Option.some.inj e; omega), .inr (fun e => by have := HD2_4.out; have h9 : g2 = g4 := Option.some.inj e; omega)⟩, .inr (fun e => by have := HD3_4.out; have h9 : g3 = g4 := Option.some.inj e; omega)⟩)
  have HOW := Lib.hid (((((HOW0.out).apart (w.heap.size + 1 + 1) 8 (.int .i64 s.fin) (by omega)).apart (w.heap.size + 1 + 1) 9 (.int .i64 s.fi) (by omega)).apart (w.heap.size + 1 + 1) 10 (.int .i64 s.sent) (by omega)).apart (w.heap.size + 1 + 1) 11 (.int .i64 s.code) (by omega))
  clear HC4 HOW0 HO1_4 HO2_4 HO3_4 HO4_4
  go_upto_region 11 with fail
  clear HCn ff f1 a0 a1 a2 a3 a4 a5 a6 a7 a8 a9 a10 a11 p0 p1 p2 p3 p4 p5 p6 p7 p8 p9 p10 p11 z0 z1 z2 z3 z4 z5 z6 z7 z8 z9 z10 z11
  obtain ⟨W5, hW⟩ : ∃ W, (((((w4.setCell ⟨w.heap.size + 1 + 1, 7, none⟩ (.slice (some ⟨g4, 0, none⟩) s.ac.length s.ac.length)).setCell ⟨w.heap.size + 1 + 1, 8, none⟩ (.int .i64 s.fin)).setCell ⟨w.heap.size + 1 + 1, 9, none⟩ (.int .i64 s.fi)).setCell ⟨w.heap.size + 1 + 1, 10, none⟩ (.int .i64 s.sent)).setCell ⟨w.heap.size + 1 + 1, 11, none⟩ (.int .i64 s.code)) = W := ⟨_, rfl⟩
  rw [hW] at HC5 HOW
  rw [hW]
  clear hW HL1 HL2 HL3 HL4 HD1_2 HD1_3 HD1_4 HD2_3 HD2_4 HD3_4
  have f1 := HC5.out.free1
  obtain ⟨p0, p1, p2, p3, p4, p5, p6, p7, p8, p9, p10, p11⟩ := rowS_cells HC5.out.2.2.1
  obtain ⟨z0, z1, z2, z3, z4, z5, z6, z7, z8, z9, z10, z11⟩ := rowS_cells HC5.out.2.1
  go_wp2
  refine bodyPost_ret (results_cell_row rfl _ _ (w.heap.size + 1) _ _ _ _ rfl (put12_row HC5.out.2.1 s (.slice (some ⟨g1, 0, none⟩) s.rn.cs.length s.rn.cs.length) (.slice (some ⟨g2, 0, none⟩) s.pe.length s.pe.length) (.slice (some ⟨g3, 0, none⟩) s.fl.length s.fl.length) (.slice (some ⟨g4, 0, none⟩) s.ac.length s.ac.length)) Try.underlying35 rfl (by kernel_rfl)) rfl ?_
  exact ⟨g1, g2, g3, g4, rfl, (put12_own HOW.out (by omega) s (.slice (some ⟨g1, 0, none⟩) s.rn.cs.length s.rn.cs.length) (.slice (some ⟨g2, 0, none⟩) s.pe.length s.pe.length) (.slice (some ⟨g3, 0, none⟩) s.fl.length s.fl.length) (.slice (some ⟨g4, 0, none⟩) s.ac.length s.ac.length)).weaken (by omega), put12_below HC5.out.2.2.2.2 (Nat.le_succ _) s (.slice (some ⟨g1, 0, none⟩) s.rn.cs.length s.rn.cs.length) (.slice (some ⟨g2, 0, none⟩) s.pe.length s.pe.length) (.slice (some ⟨g3, 0, none⟩) s.fl.length s.fl.length) (.slice (some ⟨g4, 0, none⟩) s.ac.length s.ac.length)⟩
end Go.Proofs.Ytjohbfdifdjldac

namespace Go.Proofs.Ytjohbfdifdjldac
open Go.RowKit Go.Deep Go.Proofs.Ytjohbfdifdjldac.Num

/-- All of their blocks lie from B to g. -/
def Amid (B g : Nat) (v1 v2 v3 v4 : Value) : Prop := (∀ k, v1.ownBlock = some k → B ≤ k ∧ k < g) ∧ (∀ k, v2.ownBlock = some k → B ≤ k ∧ k < g) ∧ (∀ k, v3.ownBlock = some k → B ≤ k ∧ k < g) ∧ ∀ k, v4.ownBlock = some k → B ≤ k ∧ k < g
theorem VarSM.in {W : World} {B g : Nat} {s : Sn} {v1 v2 v3 v4 : Value} {l1 : List Int} {l2 l3 l4 : List Rg} (h : VarSM W B g s v1 v2 v3 v4 l1 l2 l3 l4) : Amid B g v1 v2 v3 v4 :=
  ⟨fun k hk => ⟨(h.2.1.1.1.lt k hk).1, h.2.2.1.1 k hk⟩, fun k hk => ⟨(h.2.1.1.2.1.lt k hk).1, h.2.2.1.2.1 k hk⟩, fun k hk => ⟨(h.2.1.1.2.2.1.lt k hk).1, h.2.2.1.2.2.1 k hk⟩, fun k hk => ⟨(h.2.1.1.2.2.2.lt k hk).1, h.2.2.1.2.2.2 k hk⟩⟩
theorem OwnK.same {w w' : World} {base : Nat} {v : Value} {l : List Int} (h : OwnK w base v l) (_hs : w'.heap.size ≥ w.heap.size) (hb : ∀ k, v.ownBlock = some k → w'.heap[k]? = w.heap[k]?) : OwnK w' base v l := by
  rcases h with h | ⟨g, off, cap, rfl, hle, h⟩
  · exact .inl h
  · refine .inr ⟨g, off, cap, rfl, hle, ?_⟩
    obtain ⟨h1, cs, t, h2, h3⟩ := h
    exact ⟨h1, cs, t, (hb g rfl).trans h2, h3⟩
theorem OwnP.same {w w' : World} {base : Nat} {v : Value} {l : List Rg} (h : OwnP w base v l) (_hs : w'.heap.size ≥ w.heap.size) (hb : ∀ k, v.ownBlock = some k → w'.heap[k]? = w.heap[k]?) : OwnP w' base v l := by
  rcases h with h | ⟨g, off, cap, rfl, hle, h⟩
  · exact .inl h
  · refine .inr ⟨g, off, cap, rfl, hle, ?_⟩
    obtain ⟨h1, cs, t, h2, h3⟩ := h
    exact ⟨h1, cs, t, (hb g rfl).trans h2, h3⟩
/-- The blocks of four slices of another variable were written. -/
theorem VarSM.kept {W W' : World} {B g B' g' : Nat} {s : Sn} {v1 v2 v3 v4 u1 u2 u3 u4 : Value} {l1 : List Int} {l2 l3 l4 : List Rg} (h : VarSM W B g s v1 v2 v3 v4 l1 l2 l3 l4) (hf : Four W W' u1 u2 u3 u4) (ha : Amid B' g' u1 u2 u3 u4) (hne : g < B' ∨ g' ≤ B) : VarSM W' B g s v1 v2 v3 v4 l1 l2 l3 l4 := by
  have hin := h.in
  obtain ⟨hc, ho, hu, hB, hg⟩ := h
  have hk : ∀ k, B ≤ k → k ≤ g → W'.heap[k]? = W.heap[k]? := fun k a b => hf.2.2.2.2 k (by omega) (fun e => by have := ha.1 k e; omega) (fun e => by have := ha.2.1 k e; omega) (fun e => by have := ha.2.2.1 k e; omega) (fun e => by have := ha.2.2.2 k e; omega)
  exact ⟨hc.of (hk g hB (Nat.le_refl _)), ⟨⟨ho.1.1.same hf.2.2.2.1 (fun k e => by have := hin.1 k e; exact hk k this.1 (by omega)), ho.1.2.1.same hf.2.2.2.1 (fun k e => by have := hin.2.1 k e; exact hk k this.1 (by omega)), ho.1.2.2.1.same hf.2.2.2.1 (fun k e => by have := hin.2.2.1 k e; exact hk k this.1 (by omega)), ho.1.2.2.2.same hf.2.2.2.1 (fun k e => by have := hin.2.2.2 k e; exact hk k this.1 (by omega))⟩, ho.2⟩, hu, hB, Nat.lt_of_lt_of_le hg hf.2.2.2.1⟩
/-- Its own four slices were written. -/
theorem VarSM.wrote {W W' : World} {B g : Nat} {s : Sn} {v1 v2 v3 v4 : Value} {l1 m1 : List Int} {l2 l3 l4 m2 m3 m4 : List Rg} (h : VarSM W B g s v1 v2 v3 v4 l1 l2 l3 l4) (hf : Four W W' v1 v2 v3 v4) (ho : OwnS W' B v1 v2 v3 v4 m1 m2 m3 m4) : VarSM W' B g s v1 v2 v3 v4 m1 m2 m3 m4 := by
  have hin := h.in
  obtain ⟨hc, _, hu, hB, hg⟩ := h
  exact ⟨hc.of (hf.2.2.2.2 g hg (fun e => by have := hin.1 g e; omega) (fun e => by have := hin.2.1 g e; omega) (fun e => by have := hin.2.2.1 g e; omega) (fun e => by have := hin.2.2.2 g e; omega)), ho, hu, hB, Nat.lt_of_lt_of_le hg hf.2.2.2.1⟩
theorem InSn.mark {w0 : World} {g : Nat} {s : Sn} {A1 A2 A3 A4 : Option Addr} {c1 c2 c3 c4 : Nat} {W W' : World} {K : Nat} (h : InSn w0 g s A1 A2 A3 A4 c1 c2 c3 c4 W) (hb : Below K W W') (hK : g < K) : InSn w0 g s A1 A2 A3 A4 c1 c2 c3 c4 W' :=
  ⟨h.1.below hb hK, h.2.1.below (Nat.le_of_lt hK) hb, Nat.lt_of_lt_of_le h.2.2.1 hb.size, h.2.2.2.trans (hb.mono (Nat.le_of_lt hK))⟩
theorem szS_sum {N : Int} {s : Sn} (hN : N ≤ 1048576) (h : 0 ≤ szS N s) : s.pe.length + s.fl.length + s.ac.length ≤ 1048576 := by
  unfold szS at h
  split at h <;> omega
theorem mk5_pos (s : Sn) : 1 ≤ mk5 s := by unfold mk5 mk4 mk3 mk2; omega
theorem InSn.to {w0 : World} {g : Nat} {s : Sn} {A1 A2 A3 A4 : Option Addr} {c1 c2 c3 c4 : Nat} {W : World} (h : InSn w0 g s A1 A2 A3 A4 c1 c2 c3 c4 W) (hn : LenS 1048576 s) :
    Calls Try.prog 10 #[snV s (.slice A1 s.rn.cs.length c1) (.slice A2 s.pe.length c2) (.slice A3 s.fl.length c3) (.slice A4 s.ac.length c4)] W fun e w' => ∃ g1 g2 g3 g4 : Nat, e = .returned (snV s (.slice (some ⟨g1, 0, none⟩) s.rn.cs.length s.rn.cs.length) (.slice (some ⟨g2, 0, none⟩) s.pe.length s.pe.length) (.slice (some ⟨g3, 0, none⟩) s.fl.length s.fl.length) (.slice (some ⟨g4, 0, none⟩) s.ac.length s.ac.length)) ∧ OwnSn w' W.heap.size (.slice (some ⟨g1, 0, none⟩) s.rn.cs.length s.rn.cs.length) (.slice (some ⟨g2, 0, none⟩) s.pe.length s.pe.length) (.slice (some ⟨g3, 0, none⟩) s.fl.length s.fl.length) (.slice (some ⟨g4, 0, none⟩) s.ac.length s.ac.length) s ∧ Below W.heap.size W w' :=
  tosn s A1 A2 A3 A4 c1 c2 c3 c4 W (h.2.1.up (Nat.le_of_lt h.2.2.1)) hn
/-- laws.eqSender of two variables that hold the same. -/
theorem eqvs (s : Sn) (A1 A2 A3 A4 B1 B2 B3 B4 : Option Addr) (c1 c2 c3 c4 d1 d2 d3 d4 K K' : Nat) (W : World) (h : OwnSn W K (.slice A1 s.rn.cs.length c1) (.slice A2 s.pe.length c2) (.slice A3 s.fl.length c3) (.slice A4 s.ac.length c4) s) (h' : OwnSn W K' (.slice B1 s.rn.cs.length d1) (.slice B2 s.pe.length d2) (.slice B3 s.fl.length d3) (.slice B4 s.ac.length d4) s) (hn : LenS 10000000 s) :
    Calls Try.prog 13 #[snV s (.slice A1 s.rn.cs.length c1) (.slice A2 s.pe.length c2) (.slice A3 s.fl.length c3) (.slice A4 s.ac.length c4), snV s (.slice B1 s.rn.cs.length d1) (.slice B2 s.pe.length d2) (.slice B3 s.fl.length d3) (.slice B4 s.ac.length d4)] W fun e w' => e = .returned (.bool true) ∧ Below W.heap.size W w' :=
  eqsn s A1 A2 A3 A4 c1 c2 c3 c4 B1 B2 B3 B4 d1 d2 d3 d4 W h.read h'.read hn
/-- laws.heldSender of a marked variable. -/
theorem heldvs (s : Sn) (A1 A2 A3 A4 : Option Addr) (c1 c2 c3 c4 K : Nat) (w : World) (h : OwnS w K (.slice A1 s.rn.cs.length c1) (.slice A2 s.pe.length c2) (.slice A3 s.fl.length c3) (.slice A4 s.ac.length c4) (marks 1 s.rn.cs.length) (marksR (mk2 s) s.pe.length) (marksR (mk3 s) s.fl.length) (marksR (mk4 s) s.ac.length)) (hn : LenS 10000000 s) :
    Calls Try.prog 15 #[snV s (.slice A1 s.rn.cs.length c1) (.slice A2 s.pe.length c2) (.slice A3 s.fl.length c3) (.slice A4 s.ac.length c4), .int .i64 1] w fun e w' => e = .returned (.int .i64 (mk5 s)) ∧ Below w.heap.size w w' := by
  have e1 := h.1.1
  have e2 := h.1.2.1
  have e3 := h.1.2.2.1
  have e4 := h.1.2.2.2
  rw [show (Value.slice A1 s.rn.cs.length c1) = .slice A1 (marks 1 s.rn.cs.length).length c1 by rw [marks_len]] at e1
  rw [show (Value.slice A2 s.pe.length c2) = .slice A2 (marksR (mk2 s) s.pe.length).length c2 by rw [marksR_len]] at e2
  rw [show (Value.slice A3 s.fl.length c3) = .slice A3 (marksR (mk3 s) s.fl.length).length c3 by rw [marksR_len]] at e3
  rw [show (Value.slice A4 s.ac.length c4) = .slice A4 (marksR (mk4 s) s.ac.length).length c4 by rw [marksR_len]] at e4
  exact heldsn s A1 A2 A3 A4 c1 c2 c3 c4 w e1.chs e2.rgs e3.rgs e4.rgs hn
end Go.Proofs.Ytjohbfdifdjldac

namespace Go.Proofs.Ytjohbfdifdjldac
open Go.RowKit Go.Deep Go.Proofs.Ytjohbfdifdjldac.Num

set_option maxRecDepth 100000 in
set_option maxHeartbeats 8000000 in
/-- The law on AckReset, of a spec and an impl that answer so. -/
theorem law_AckReset (HSP : ∀ (s : Sn) (A1 A2 A3 A4 : Option Addr) (c1 c2 c3 c4 B : Nat) (w : World), B ≤ w.heap.size → ReadS w B A1 A2 A3 A4 s → LenS 1048576 s → s.pe.length + s.fl.length + s.ac.length ≤ 1048576 → inI s.rn.cs ∧ InR s.pe ∧ InR s.fl ∧ InR s.ac → inSn s → Calls Try.prog 16 #[snV s (.slice A1 s.rn.cs.length c1) (.slice A2 s.pe.length c2) (.slice A3 s.fl.length c3) (.slice A4 s.ac.length c4)] w fun e w' => ∃ v1 v2 v3 v4, e = .returned (.tuple #[snV (arS (decide (okSn s)) s) v1 v2 v3 v4, .bool (decide (decide (okSn s) = true ∧ s.st = 4))]) ∧ OwnSn w' w.heap.size v1 v2 v3 v4 (arS (decide (okSn s)) s) ∧ Below w.heap.size w w')
    (HI : ∀ (s : Sn) (A1 A2 A3 A4 : Option Addr) (c1 c2 c3 c4 B : Nat) (w : World), B ≤ w.heap.size → ReadS w B A1 A2 A3 A4 s → LenS 1048576 s → s.pe.length + s.fl.length + s.ac.length ≤ 1048576 → inI s.rn.cs ∧ InR s.pe ∧ InR s.fl ∧ InR s.ac → inSn s → Calls Try.prog 17 #[snV s (.slice A1 s.rn.cs.length c1) (.slice A2 s.pe.length c2) (.slice A3 s.fl.length c3) (.slice A4 s.ac.length c4)] w fun e w' => ∃ v1 v2 v3 v4, e = .returned (.tuple #[snV (arS (decide (okSn s)) s) v1 v2 v3 v4, .bool (decide (decide (okSn s) = true ∧ s.st = 4))]) ∧ OwnSn w' w.heap.size v1 v2 v3 v4 (arS (decide (okSn s)) s) ∧ Below w.heap.size w w')
    (s : Sn) (A1 A2 A3 A4 : Option Addr) (c1 c2 c3 c4 : Nat) (w : World) (hr : ReadS w w.heap.size A1 A2 A3 A4 s) (hn : s.rn.cs.length ≤ maxLen ∧ s.pe.length ≤ maxLen ∧ s.fl.length ≤ maxLen ∧ s.ac.length ≤ maxLen) (hi : inI s.rn.cs ∧ InR s.pe ∧ InR s.fl ∧ InR s.ac) (hx : inSn s) :
    Calls Try.prog 4 #[snV s (.slice A1 s.rn.cs.length c1) (.slice A2 s.pe.length c2) (.slice A3 s.fl.length c3) (.slice A4 s.ac.length c4)] w fun e w' => e = .returned (.bool true) ∧ Below w.heap.size w w' := by
  have HW := Lib.hid (InSn.start w s A1 A2 A3 A4 c1 c2 c3 c4 27 hr)
  have HZ := Lib.hid (lszs 1048576 (by decide) (by decide) s A1 A2 A3 A4 c1 c2 c3 c4 _ (HW.out.2.1.up (Nat.le_of_lt HW.out.2.2.1)) (by unfold maxLen at hn; omega))
  have hlow := (szS_low 1048576 s (by decide)).1
  by_cases hneg : szS 1048576 s < 0
  · generalize szS 1048576 s = m at *
    have hd : decide (m < 0) = true := decide_eq_true hneg
    clear hneg hlow hr hi hx HI HSP hn 
    go_enter Try.func4, Try.ntmps4
    obtain ⟨a0, a1, a2, a3, a4, a5, a6, a7, a8, a9, a10, a11⟩ := HW.out.1
    go_wp2_with fail
    refine HZ.out.mono ?_
    rintro e w1 ⟨rfl, hb1⟩
    have H1 := Lib.hid (HW.out.next hb1)
    clear hb1
    go_wp2
    go_ret
    exact ⟨rfl, H1.out.2.2.2⟩
  have hlen : LenS 1048576 s := szS_ok (N := 1048576) (s := s) (by decide) (by omega)
  have hsum := szS_sum (N := 1048576) (s := s) (by decide) (by omega)
  have hLl : LenS 3145728 (arS (decide (okSn s)) s) := by unfold arS; split <;> exact hlen.up (by decide)
  have HS : Hid (∀ (g1 g2 g3 g4 : Nat) (W : World), ReadS W W.heap.size (some ⟨g1, 0, none⟩) (some ⟨g2, 0, none⟩) (some ⟨g3, 0, none⟩) (some ⟨g4, 0, none⟩) s → Calls Try.prog 16 #[snV s (.slice (some ⟨g1, 0, none⟩) s.rn.cs.length s.rn.cs.length) (.slice (some ⟨g2, 0, none⟩) s.pe.length s.pe.length) (.slice (some ⟨g3, 0, none⟩) s.fl.length s.fl.length) (.slice (some ⟨g4, 0, none⟩) s.ac.length s.ac.length)] W fun e w' => ∃ v1 v2 v3 v4, e = .returned (.tuple #[snV (arS (decide (okSn s)) s) v1 v2 v3 v4, .bool (decide (decide (okSn s) = true ∧ s.st = 4))]) ∧ OwnSn w' W.heap.size v1 v2 v3 v4 (arS (decide (okSn s)) s) ∧ Below W.heap.size W w') := Lib.hid fun g1 g2 g3 g4 W h => HSP s _ _ _ _ _ _ _ _ W.heap.size W (Nat.le_refl _) h hlen hsum hi hx
  have HM : Hid (∀ (g1 g2 g3 g4 : Nat) (W : World), ReadS W W.heap.size (some ⟨g1, 0, none⟩) (some ⟨g2, 0, none⟩) (some ⟨g3, 0, none⟩) (some ⟨g4, 0, none⟩) s → Calls Try.prog 17 #[snV s (.slice (some ⟨g1, 0, none⟩) s.rn.cs.length s.rn.cs.length) (.slice (some ⟨g2, 0, none⟩) s.pe.length s.pe.length) (.slice (some ⟨g3, 0, none⟩) s.fl.length s.fl.length) (.slice (some ⟨g4, 0, none⟩) s.ac.length s.ac.length)] W fun e w' => ∃ v1 v2 v3 v4, e = .returned (.tuple #[snV (arS (decide (okSn s)) s) v1 v2 v3 v4, .bool (decide (decide (okSn s) = true ∧ s.st = 4))]) ∧ OwnSn w' W.heap.size v1 v2 v3 v4 (arS (decide (okSn s)) s) ∧ Below W.heap.size W w') := Lib.hid fun g1 g2 g3 g4 W h => HI s _ _ _ _ _ _ _ _ W.heap.size W (Nat.le_refl _) h hlen hsum hi hx
  generalize szS 1048576 s = m at *
  have hd : decide (m < 0) = false := decide_eq_false hneg
  generalize decide (decide (okSn s) = true ∧ s.st = 4) = t1 at *
  generalize (arS (decide (okSn s)) s) = R at *
  have hbn1 := bne_bool t1
  have HLR := Lib.hid hLl
  clear hneg hlow hr hi HI HSP hx hn hsum 
  go_enter Try.func4, Try.ntmps4
  obtain ⟨a0, a1, a2, a3, a4, a5, a6, a7, a8, a9, a10, a11⟩ := HW.out.1
  go_wp2_with fail
  refine HZ.out.mono ?_
  rintro e w1 ⟨rfl, hb1⟩
  have H1 := Lib.hid (HW.out.next hb1)
  clear hb1 HW HZ a0 a1 a2 a3 a4 a5 a6 a7 a8 a9 a10 a11
  obtain ⟨a0, a1, a2, a3, a4, a5, a6, a7, a8, a9, a10, a11⟩ := H1.out.1
  go_wp2_with fail
  refine (H1.out.to hlen).mono ?_
  rintro e w2 ⟨k1, k2, k3, k4, rfl, ho', hb'⟩
  have H2 := Lib.hid (H1.out.next hb')
  have HTw2 := Lib.hid ho'
  clear ho' hb' a0 a1 a2 a3 a4 a5 a6 a7 a8 a9 a10 a11
  go_wp2_with fail
  refine (HS.out _ _ _ _ w2 HTw2.out.read).mono ?_
  rintro e w3 ⟨v31, v32, v33, v34, rfl, ho3, hb3⟩
  obtain ⟨A31, A32, A33, A34, c31, c32, c33, c34, rfl, rfl, rfl, rfl, _, _, _, _⟩ := ho3.frs
  have V4 := Lib.hid (VarS.new R 35 ho3 hb3.size)
  have H4 := Lib.hid ((H2.out.next hb3).alloc (.cells (snB R (.slice A31 R.rn.cs.length c31) (.slice A32 R.pe.length c32) (.slice A33 R.fl.length c33) (.slice A34 R.ac.length c34)) 35))
  have hz4 : (w3.alloc (.cells (snB R (.slice A31 R.rn.cs.length c31) (.slice A32 R.pe.length c32) (.slice A33 R.fl.length c33) (.slice A34 R.ac.length c34)) 35)).heap.size = w3.heap.size + 1 := by simp
  have HZ4 := Lib.hid hz4
  have hB0 : w.heap.size < w2.heap.size := H2.out.2.2.1
  have hB1 : w2.heap.size ≤ w3.heap.size := hb3.size
  clear ho3 hb3 HTw2 H2 HS hz4
  go_upto_region 6 with fail
  generalize w3.alloc (.cells (snB R (.slice A31 R.rn.cs.length c31) (.slice A32 R.pe.length c32) (.slice A33 R.fl.length c33) (.slice A34 R.ac.length c34)) 35) = w4 at *
  generalize w3.heap.size = g0 at *
  generalize w2.heap.size = B0 at *
  obtain ⟨a0, a1, a2, a3, a4, a5, a6, a7, a8, a9, a10, a11⟩ := H4.out.1
  go_wp2_with fail
  refine (H4.out.to hlen).mono ?_
  rintro e w5 ⟨kx1, kx2, kx3, kx4, rfl, ho', hb'⟩
  have hs5 : w4.heap.size ≤ w5.heap.size := hb'.size
  have X6 := Lib.hid (VarS.new s 35 ho' hs5)
  have H6 := Lib.hid ((H4.out.next hb').alloc (.cells (snB s (.slice (some ⟨kx1, 0, none⟩) s.rn.cs.length s.rn.cs.length) (.slice (some ⟨kx2, 0, none⟩) s.pe.length s.pe.length) (.slice (some ⟨kx3, 0, none⟩) s.fl.length s.fl.length) (.slice (some ⟨kx4, 0, none⟩) s.ac.length s.ac.length)) 35))
  have V6 := Lib.hid ((V4.out.next hb').alloc (.cells (snB s (.slice (some ⟨kx1, 0, none⟩) s.rn.cs.length s.rn.cs.length) (.slice (some ⟨kx2, 0, none⟩) s.pe.length s.pe.length) (.slice (some ⟨kx3, 0, none⟩) s.fl.length s.fl.length) (.slice (some ⟨kx4, 0, none⟩) s.ac.length s.ac.length)) 35))
  have hz6 : (w5.alloc (.cells (snB s (.slice (some ⟨kx1, 0, none⟩) s.rn.cs.length s.rn.cs.length) (.slice (some ⟨kx2, 0, none⟩) s.pe.length s.pe.length) (.slice (some ⟨kx3, 0, none⟩) s.fl.length s.fl.length) (.slice (some ⟨kx4, 0, none⟩) s.ac.length s.ac.length)) 35)).heap.size = w5.heap.size + 1 := by simp
  have HZ6 := Lib.hid hz6
  have hx1 : g0 < w4.heap.size := by have := HZ4.out; omega
  clear hz6 ho' hb' H4 V4 HZ4 a0 a1 a2 a3 a4 a5 a6 a7 a8 a9 a10 a11
  go_upto_region 7 with fail
  generalize w5.alloc (.cells (snB s (.slice (some ⟨kx1, 0, none⟩) s.rn.cs.length s.rn.cs.length) (.slice (some ⟨kx2, 0, none⟩) s.pe.length s.pe.length) (.slice (some ⟨kx3, 0, none⟩) s.fl.length s.fl.length) (.slice (some ⟨kx4, 0, none⟩) s.ac.length s.ac.length)) 35) = w6 at *
  generalize w5.heap.size = gx at *
  generalize w4.heap.size = Bx at *
  obtain ⟨x0, x1, x2, x3, x4, x5, x6, x7, x8, x9, x10, x11⟩ := X6.out.1
  go_wp2_with fail
  refine (HM.out _ _ _ _ w6 X6.out.2.1.read).mono ?_
  rintro e w7 ⟨v71, v72, v73, v74, rfl, ho7, hb7⟩
  obtain ⟨A71, A72, A73, A74, c71, c72, c73, c74, rfl, rfl, rfl, rfl, _, _, _, _⟩ := ho7.frs
  have hs7 : w6.heap.size ≤ w7.heap.size := hb7.size
  have G8 := Lib.hid (VarS.new R 35 ho7 hb7.size)
  have H8 := Lib.hid ((H6.out.next hb7).alloc (.cells (snB R (.slice A71 R.rn.cs.length c71) (.slice A72 R.pe.length c72) (.slice A73 R.fl.length c73) (.slice A74 R.ac.length c74)) 35))
  have V8 := Lib.hid ((V6.out.next hb7).alloc (.cells (snB R (.slice A71 R.rn.cs.length c71) (.slice A72 R.pe.length c72) (.slice A73 R.fl.length c73) (.slice A74 R.ac.length c74)) 35))
  have X8 := Lib.hid ((X6.out.next hb7).alloc (.cells (snB R (.slice A71 R.rn.cs.length c71) (.slice A72 R.pe.length c72) (.slice A73 R.fl.length c73) (.slice A74 R.ac.length c74)) 35))
  have hg1 : gx < w6.heap.size := by have := HZ6.out; omega
  clear ho7 hb7 H6 V6 X6 x0 x1 x2 x3 x4 x5 x6 x7 x8 x9 x10 x11 HZ6
  go_upto_region 8 with fail
  generalize w7.alloc (.cells (snB R (.slice A71 R.rn.cs.length c71) (.slice A72 R.pe.length c72) (.slice A73 R.fl.length c73) (.slice A74 R.ac.length c74)) 35) = w8 at *
  generalize w7.heap.size = gg at *
  generalize w6.heap.size = Bg at *
  obtain ⟨y0, y1, y2, y3, y4, y5, y6, y7, y8, y9, y10, y11⟩ := G8.out.1
  obtain ⟨z0, z1, z2, z3, z4, z5, z6, z7, z8, z9, z10, z11⟩ := V8.out.1
  go_wp2_with fail
  refine (eqvs R _ _ _ _ _ _ _ _ _ _ _ _ _ _ _ _ _ _ _ G8.out.2.1 V8.out.2.1 (HLR.out.up (by decide))).mono ?_
  rintro e w9 ⟨rfl, hb'⟩
  have H9 := Lib.hid (H8.out.next hb')
  have V9 := Lib.hid (V8.out.next hb')
  have X9 := Lib.hid (X8.out.next hb')
  have G9 := Lib.hid (G8.out.next hb')
  clear hb' H8 V8 X8 G8
  clear y0 y1 y2 y3 y4 y5 y6 y7 y8 y9 y10 y11 z0 z1 z2 z3 z4 z5 z6 z7 z8 z9 z10 z11
  have HSS : Hid (∀ W, Below w9.heap.size w9 W → W.cell? ⟨w.heap.size, 0, none⟩ = some (.int .i64 s.st) ∧ W.cell? ⟨w.heap.size, 1, none⟩ = some (.int .i64 s.rn.size) ∧ W.cell? ⟨w.heap.size, 2, none⟩ = some (.int .i64 s.rn.base) ∧ W.cell? ⟨w.heap.size, 3, none⟩ = some (.int .i64 s.rn.en) ∧ W.cell? ⟨w.heap.size, 4, none⟩ = some (.slice A1 s.rn.cs.length c1) ∧ W.cell? ⟨w.heap.size, 5, none⟩ = some (.slice A2 s.pe.length c2) ∧ W.cell? ⟨w.heap.size, 6, none⟩ = some (.slice A3 s.fl.length c3) ∧ W.cell? ⟨w.heap.size, 7, none⟩ = some (.slice A4 s.ac.length c4) ∧ W.cell? ⟨w.heap.size, 8, none⟩ = some (.int .i64 s.fin) ∧ W.cell? ⟨w.heap.size, 9, none⟩ = some (.int .i64 s.fi) ∧ W.cell? ⟨w.heap.size, 10, none⟩ = some (.int .i64 s.sent) ∧ W.cell? ⟨w.heap.size, 11, none⟩ = some (.int .i64 s.code) ∧ W.cell? ⟨gx, 0, none⟩ = some (.int .i64 s.st) ∧ W.cell? ⟨gx, 1, none⟩ = some (.int .i64 s.rn.size) ∧ W.cell? ⟨gx, 2, none⟩ = some (.int .i64 s.rn.base) ∧ W.cell? ⟨gx, 3, none⟩ = some (.int .i64 s.rn.en) ∧ W.cell? ⟨gx, 4, none⟩ = some (.slice (some ⟨kx1, 0, none⟩) s.rn.cs.length s.rn.cs.length) ∧ W.cell? ⟨gx, 5, none⟩ = some (.slice (some ⟨kx2, 0, none⟩) s.pe.length s.pe.length) ∧ W.cell? ⟨gx, 6, none⟩ = some (.slice (some ⟨kx3, 0, none⟩) s.fl.length s.fl.length) ∧ W.cell? ⟨gx, 7, none⟩ = some (.slice (some ⟨kx4, 0, none⟩) s.ac.length s.ac.length) ∧ W.cell? ⟨gx, 8, none⟩ = some (.int .i64 s.fin) ∧ W.cell? ⟨gx, 9, none⟩ = some (.int .i64 s.fi) ∧ W.cell? ⟨gx, 10, none⟩ = some (.int .i64 s.sent) ∧ W.cell? ⟨gx, 11, none⟩ = some (.int .i64 s.code)) := Lib.hid fun W h =>
    have h2 := (H9.out.next h).1
    have h3 := (X9.out.next h).1
    ⟨h2.1, h2.2.1, h2.2.2.1, h2.2.2.2.1, h2.2.2.2.2.1, h2.2.2.2.2.2.1, h2.2.2.2.2.2.2.1, h2.2.2.2.2.2.2.2.1, h2.2.2.2.2.2.2.2.2.1, h2.2.2.2.2.2.2.2.2.2.1, h2.2.2.2.2.2.2.2.2.2.2.1, h2.2.2.2.2.2.2.2.2.2.2.2, h3.1, h3.2.1, h3.2.2.1, h3.2.2.2.1, h3.2.2.2.2.1, h3.2.2.2.2.2.1, h3.2.2.2.2.2.2.1, h3.2.2.2.2.2.2.2.1, h3.2.2.2.2.2.2.2.2.1, h3.2.2.2.2.2.2.2.2.2.1, h3.2.2.2.2.2.2.2.2.2.2.1, h3.2.2.2.2.2.2.2.2.2.2.2⟩
  have HT := Lib.hid (H9.out.drew.to hlen)
  obtain ⟨z0, z1, z2, z3, z4, z5, z6, z7, z8, z9, z10, z11, z12, z13, z14, z15, z16, z17, z18, z19, z20, z21, z22, z23⟩ := HSS.out w9 (Below.refl _ _)
  have HS0 := Lib.hid (HSS.out _ (Below.refl w9.heap.size w9).drew)
  go_upto_region 10 with fail
  go_region_held3 (fun W => W.cell? ⟨w.heap.size, 0, none⟩ = some (.int .i64 s.st) ∧ W.cell? ⟨w.heap.size, 1, none⟩ = some (.int .i64 s.rn.size) ∧ W.cell? ⟨w.heap.size, 2, none⟩ = some (.int .i64 s.rn.base) ∧ W.cell? ⟨w.heap.size, 3, none⟩ = some (.int .i64 s.rn.en) ∧ W.cell? ⟨w.heap.size, 4, none⟩ = some (.slice A1 s.rn.cs.length c1) ∧ W.cell? ⟨w.heap.size, 5, none⟩ = some (.slice A2 s.pe.length c2) ∧ W.cell? ⟨w.heap.size, 6, none⟩ = some (.slice A3 s.fl.length c3) ∧ W.cell? ⟨w.heap.size, 7, none⟩ = some (.slice A4 s.ac.length c4) ∧ W.cell? ⟨w.heap.size, 8, none⟩ = some (.int .i64 s.fin) ∧ W.cell? ⟨w.heap.size, 9, none⟩ = some (.int .i64 s.fi) ∧ W.cell? ⟨w.heap.size, 10, none⟩ = some (.int .i64 s.sent) ∧ W.cell? ⟨w.heap.size, 11, none⟩ = some (.int .i64 s.code) ∧ W.cell? ⟨gx, 0, none⟩ = some (.int .i64 s.st) ∧ W.cell? ⟨gx, 1, none⟩ = some (.int .i64 s.rn.size) ∧ W.cell? ⟨gx, 2, none⟩ = some (.int .i64 s.rn.base) ∧ W.cell? ⟨gx, 3, none⟩ = some (.int .i64 s.rn.en) ∧ W.cell? ⟨gx, 4, none⟩ = some (.slice (some ⟨kx1, 0, none⟩) s.rn.cs.length s.rn.cs.length) ∧ W.cell? ⟨gx, 5, none⟩ = some (.slice (some ⟨kx2, 0, none⟩) s.pe.length s.pe.length) ∧ W.cell? ⟨gx, 6, none⟩ = some (.slice (some ⟨kx3, 0, none⟩) s.fl.length s.fl.length) ∧ W.cell? ⟨gx, 7, none⟩ = some (.slice (some ⟨kx4, 0, none⟩) s.ac.length s.ac.length) ∧ W.cell? ⟨gx, 8, none⟩ = some (.int .i64 s.fin) ∧ W.cell? ⟨gx, 9, none⟩ = some (.int .i64 s.fi) ∧ W.cell? ⟨gx, 10, none⟩ = some (.int .i64 s.sent) ∧ W.cell? ⟨gx, 11, none⟩ = some (.int .i64 s.code)) (first | with_reducible exact HS0.out | with_reducible exact HSA.out | with_reducible exact HSB.out) (first | (go_at_call 10; refine HT.out.mono ?_; rintro e w10 ⟨gt1, gt2, gt3, gt4, rfl, ho', hb'⟩; have HBv := Lib.hid ((Below.refl w9.heap.size w9).drew.trans hb'); have HSA := Lib.hid (HSS.out w10 HBv.out); have HRv := Lib.hid ho'; have HPv := Lib.hid (X9.out.next HBv.out).2.1; clear ho' hb') | (go_at_call 13; refine (eqvs s _ _ _ _ _ _ _ _ _ _ _ _ _ _ _ _ _ _ _ HPv.out HRv.out (hlen.up (by decide))).mono ?_; rintro e w11 ⟨rfl, hb'⟩; have HBw := Lib.hid (HBv.out.trans (hb'.mono HBv.out.size)); have HSB := Lib.hid (HSS.out w11 HBw.out); clear hb'))
  clear z0 z1 z2 z3 z4 z5 z6 z7 z8 z9 z10 z11 z12 z13 z14 z15 z16 z17 z18 z19 z20 z21 z22 z23 HSS HT HS0 HSA HSB HBv HRv HPv
  have H11 := Lib.hid (H9.out.next HBw.out)
  have V11 := Lib.hid (V9.out.next HBw.out)
  have X11 := Lib.hid (X9.out.next HBw.out)
  have G11 := Lib.hid (G9.out.next HBw.out)
  clear H9 V9 X9 G9 HBw
  obtain ⟨x0, x1, x2, x3, x4, x5, x6, x7, x8, x9, x10, x11⟩ := X11.out.1
  have hx2 := X11.out.2.2.2.1
  have HXI := Lib.hid X11.out.in
  go_wp2_with fail
  refine (marksn s _ _ _ _ Bx w11 X11.out.2.1 (Nat.le_trans hx2 (Nat.le_of_lt X11.out.2.2.2.2)) (hlen.up (by decide))).mono ?_
  rintro e w12 ⟨rfl, ho', hb', hf'⟩
  have H12 := Lib.hid (H11.out.mark hb' (by omega))
  have V12 := Lib.hid (V11.out.kept hf' HXI.out (by omega))
  have G12 := Lib.hid (G11.out.kept hf' HXI.out (by omega))
  have hk1 : decide (mk5 s < 0) = false := decide_eq_false (by have := mk5_pos s; omega)
  clear ho' hb' hf' H11 V11 X11 G11 x0 x1 x2 x3 x4 x5 x6 x7 x8 x9 x10 x11 HXI
  generalize mk5 s = k1 at *
  obtain ⟨y0, y1, y2, y3, y4, y5, y6, y7, y8, y9, y10, y11⟩ := G12.out.1
  obtain ⟨z0, z1, z2, z3, z4, z5, z6, z7, z8, z9, z10, z11⟩ := V12.out.1
  go_wp2_with fail
  refine (eqvs R _ _ _ _ _ _ _ _ _ _ _ _ _ _ _ _ _ _ _ G12.out.2.1 V12.out.2.1 (HLR.out.up (by decide))).mono ?_
  rintro e w13 ⟨rfl, hb'⟩
  have H13 := Lib.hid (H12.out.next hb')
  have V13 := Lib.hid (V12.out.next hb')
  have G13 := Lib.hid (G12.out.next hb')
  clear hb' H12 V12 G12
  clear y0 y1 y2 y3 y4 y5 y6 y7 y8 y9 y10 y11 z0 z1 z2 z3 z4 z5 z6 z7 z8 z9 z10 z11 hk1
  obtain ⟨x0, x1, x2, x3, x4, x5, x6, x7, x8, x9, x10, x11⟩ := G13.out.1
  have HGI := Lib.hid G13.out.in
  have hg2 := G13.out.2.2.2.1
  have hv4 := V13.out.2.2.2.1
  go_wp2_with fail
  refine (marksn R _ _ _ _ Bg w13 G13.out.2.1 (Nat.le_trans hg2 (Nat.le_of_lt G13.out.2.2.2.2)) (HLR.out.up (by decide))).mono ?_
  rintro e w14 ⟨rfl, ho', hb', hf'⟩
  have H14 := Lib.hid (H13.out.mark hb' (by omega))
  have V14 := Lib.hid (V13.out.kept hf' HGI.out (by omega))
  have G14 := Lib.hid (G13.out.wrote hf' ho')
  clear ho' hb' hf' H13 V13 G13 x0 x1 x2 x3 x4 x5 x6 x7 x8 x9 x10 x11 HGI
  obtain ⟨q1, hq1⟩ : ∃ q1 : Int, mk5 R = q1 := ⟨_, rfl⟩
  have hq0 : decide (q1 < 0) = false := decide_eq_false (by have := mk5_pos R; omega)
  have hq2 := bne_int q1
  rw [hq1]
  have HQ1 := Lib.hid hq1
  clear hq1
  obtain ⟨x0, x1, x2, x3, x4, x5, x6, x7, x8, x9, x10, x11⟩ := G14.out.1
  have hhe := heldvs R _ _ _ _ _ _ _ _ _ w14 G14.out.2.1 (HLR.out.up (by decide))
  rw [HQ1.out] at hhe
  have HHE := Lib.hid hhe
  clear hhe
  go_wp2_with fail
  refine HHE.out.mono ?_
  rintro e w15 ⟨rfl, hb'⟩
  have H15 := Lib.hid (H14.out.next hb')
  have V15 := Lib.hid (V14.out.next hb')
  have G15 := Lib.hid (G14.out.next hb')
  clear hb' H14 V14 G14 HHE
  clear x0 x1 x2 x3 x4 x5 x6 x7 x8 x9 x10 x11
  obtain ⟨a0, a1, a2, a3, a4, a5, a6, a7, a8, a9, a10, a11⟩ := H15.out.1
  go_wp2_with fail
  refine (H15.out.to hlen).mono ?_
  rintro e w16 ⟨k161, k162, k163, k164, rfl, ho', hb'⟩
  have H16 := Lib.hid (H15.out.next hb')
  have HTw16 := Lib.hid ho'
  have V16 := Lib.hid (V15.out.next hb')
  have G16 := Lib.hid (G15.out.next hb')
  clear ho' hb' a0 a1 a2 a3 a4 a5 a6 a7 a8 a9 a10 a11
  go_wp2_with fail
  refine (HM.out _ _ _ _ w16 HTw16.out.read).mono ?_
  rintro e w17 ⟨v171, v172, v173, v174, rfl, ho17, hb7⟩
  obtain ⟨A171, A172, A173, A174, c171, c172, c173, c174, rfl, rfl, rfl, rfl, _, _, _, _⟩ := ho17.frs
  have K18 := Lib.hid (VarS.new R 35 ho17 hb7.size)
  have H18 := Lib.hid ((H16.out.next hb7).alloc (.cells (snB R (.slice A171 R.rn.cs.length c171) (.slice A172 R.pe.length c172) (.slice A173 R.fl.length c173) (.slice A174 R.ac.length c174)) 35))
  have V18 := Lib.hid ((V16.out.next hb7).alloc (.cells (snB R (.slice A171 R.rn.cs.length c171) (.slice A172 R.pe.length c172) (.slice A173 R.fl.length c173) (.slice A174 R.ac.length c174)) 35))
  have G18 := Lib.hid ((G16.out.next hb7).alloc (.cells (snB R (.slice A171 R.rn.cs.length c171) (.slice A172 R.pe.length c172) (.slice A173 R.fl.length c173) (.slice A174 R.ac.length c174)) 35))
  clear ho17 hb7 H16 V16 G16 HTw16 H15 V15 G15
  go_upto_region 25 with fail
  generalize w17.alloc (.cells (snB R (.slice A171 R.rn.cs.length c171) (.slice A172 R.pe.length c172) (.slice A173 R.fl.length c173) (.slice A174 R.ac.length c174)) 35) = w18 at *
  generalize w17.heap.size = gh at *
  generalize w16.heap.size = Bh at *
  obtain ⟨y0, y1, y2, y3, y4, y5, y6, y7, y8, y9, y10, y11⟩ := K18.out.1
  obtain ⟨z0, z1, z2, z3, z4, z5, z6, z7, z8, z9, z10, z11⟩ := V18.out.1
  go_wp2_with fail
  refine (eqvs R _ _ _ _ _ _ _ _ _ _ _ _ _ _ _ _ _ _ _ K18.out.2.1 V18.out.2.1 (HLR.out.up (by decide))).mono ?_
  rintro e w19 ⟨rfl, hb'⟩
  have H19 := Lib.hid (H18.out.next hb')
  have G19 := Lib.hid (G18.out.next hb')
  clear hb' H18 G18
  clear y0 y1 y2 y3 y4 y5 y6 y7 y8 y9 y10 y11 z0 z1 z2 z3 z4 z5 z6 z7 z8 z9 z10 z11 V18 K18
  obtain ⟨x0, x1, x2, x3, x4, x5, x6, x7, x8, x9, x10, x11⟩ := G19.out.1
  have hhe := heldvs R _ _ _ _ _ _ _ _ _ w19 G19.out.2.1 (HLR.out.up (by decide))
  rw [HQ1.out] at hhe
  have HHE := Lib.hid hhe
  clear hhe
  go_wp2_with fail
  refine HHE.out.mono ?_
  rintro e w20 ⟨rfl, hb'⟩
  have H20 := Lib.hid (H19.out.next hb')
  clear hb' H19
  clear x0 x1 x2 x3 x4 x5 x6 x7 x8 x9 x10 x11 G19 HHE
  go_wp2
  go_ret
  exact ⟨rfl, H20.out.2.2.2⟩

end Go.Proofs.Ytjohbfdifdjldac

namespace Go.Proofs.Ytjohbfdifdjldac
open Go.RowKit Go.Deep Go.Proofs.Ytjohbfdifdjldac.Num

set_option maxRecDepth 100000 in
set_option maxHeartbeats 2000000 in
/-- spec.l9Copy: a copy, in new blocks. -/
theorem scopyS (s : Sn) (A1 A2 A3 A4 : Option Addr) (c1 c2 c3 c4 B : Nat) (w : World) (hB : B ≤ w.heap.size) (hr : ReadS w B A1 A2 A3 A4 s) (hn : LenS 1000000000 s) :
    Calls Try.prog 24 #[snV s (.slice A1 s.rn.cs.length c1) (.slice A2 s.pe.length c2) (.slice A3 s.fl.length c3) (.slice A4 s.ac.length c4)] w fun e w' => ∃ v1 v2 v3 v4, e = .returned (snV s v1 v2 v3 v4) ∧ OwnSn w' w.heap.size v1 v2 v3 v4 s ∧ Below w.heap.size w w' := by
  have HH := Lib.hid (IrS.start w (fun _ => none) s (.slice A1 s.rn.cs.length c1) (.slice A2 s.pe.length c2) (.slice A3 s.fl.length c3) (.slice A4 s.ac.length c4))
  have HC1 : Hid (∀ W, Below w.heap.size w W → Calls Try.prog 53 #[rnV s.rn (.slice A1 s.rn.cs.length c1)] W fun e w' => ∃ v, e = .returned (rnV s.rn v) ∧ OwnK w' W.heap.size v s.rn.cs ∧ Below W.heap.size W w') := Lib.hid fun W h => scopyn s.rn A1 c1 B W (Nat.le_trans hB h.size) (hr.1.below hB h) hn.1
  have HC2 : Hid (∀ W, Below w.heap.size w W → Calls Try.prog 54 #[.slice A2 s.pe.length c2] W fun e w' => ∃ v, e = .returned v ∧ OwnR w' W.heap.size v s.pe ∧ Below W.heap.size W w') := Lib.hid fun W h => scopy s.pe A2 c2 B W (Nat.le_trans hB h.size) (hr.2.1.below hB h) hn.2.1
  have HC3 : Hid (∀ W, Below w.heap.size w W → Calls Try.prog 54 #[.slice A3 s.fl.length c3] W fun e w' => ∃ v, e = .returned v ∧ OwnR w' W.heap.size v s.fl ∧ Below W.heap.size W w') := Lib.hid fun W h => scopy s.fl A3 c3 B W (Nat.le_trans hB h.size) (hr.2.2.1.below hB h) hn.2.2.1
  have HC4 : Hid (∀ W, Below w.heap.size w W → Calls Try.prog 54 #[.slice A4 s.ac.length c4] W fun e w' => ∃ v, e = .returned v ∧ OwnR w' W.heap.size v s.ac ∧ Below W.heap.size W w') := Lib.hid fun W h => scopy s.ac A4 c4 B W (Nat.le_trans hB h.size) (hr.2.2.2.below hB h) hn.2.2.2
  have HSC : Hid (∀ W, IrS w 2 (w.heap.size + 1) (fun _ => none) s (.slice A1 s.rn.cs.length c1) (.slice A2 s.pe.length c2) (.slice A3 s.fl.length c3) (.slice A4 s.ac.length c4) W → W.cell? ⟨w.heap.size, 0, none⟩ = some (.int .i64 s.st) ∧ W.cell? ⟨w.heap.size, 1, none⟩ = some (.int .i64 s.rn.size) ∧ W.cell? ⟨w.heap.size, 2, none⟩ = some (.int .i64 s.rn.base) ∧ W.cell? ⟨w.heap.size, 3, none⟩ = some (.int .i64 s.rn.en) ∧ W.cell? ⟨w.heap.size, 4, none⟩ = some (.slice A1 s.rn.cs.length c1) ∧ W.cell? ⟨w.heap.size, 5, none⟩ = some (.slice A2 s.pe.length c2) ∧ W.cell? ⟨w.heap.size, 6, none⟩ = some (.slice A3 s.fl.length c3) ∧ W.cell? ⟨w.heap.size, 7, none⟩ = some (.slice A4 s.ac.length c4) ∧ W.cell? ⟨w.heap.size, 8, none⟩ = some (.int .i64 s.fin) ∧ W.cell? ⟨w.heap.size, 9, none⟩ = some (.int .i64 s.fi) ∧ W.cell? ⟨w.heap.size, 10, none⟩ = some (.int .i64 s.sent) ∧ W.cell? ⟨w.heap.size, 11, none⟩ = some (.int .i64 s.code)) := Lib.hid fun W h => h.b.cells
  have HCZ : Hid (∀ W, RowS W w.heap.size s (.slice A1 s.rn.cs.length c1) (.slice A2 s.pe.length c2) (.slice A3 s.fl.length c3) (.slice A4 s.ac.length c4) → W.cell? ⟨w.heap.size, 0, none⟩ = some (.int .i64 s.st) ∧ W.cell? ⟨w.heap.size, 1, none⟩ = some (.int .i64 s.rn.size) ∧ W.cell? ⟨w.heap.size, 2, none⟩ = some (.int .i64 s.rn.base) ∧ W.cell? ⟨w.heap.size, 3, none⟩ = some (.int .i64 s.rn.en) ∧ W.cell? ⟨w.heap.size, 4, none⟩ = some (.slice A1 s.rn.cs.length c1) ∧ W.cell? ⟨w.heap.size, 5, none⟩ = some (.slice A2 s.pe.length c2) ∧ W.cell? ⟨w.heap.size, 6, none⟩ = some (.slice A3 s.fl.length c3) ∧ W.cell? ⟨w.heap.size, 7, none⟩ = some (.slice A4 s.ac.length c4) ∧ W.cell? ⟨w.heap.size, 8, none⟩ = some (.int .i64 s.fin) ∧ W.cell? ⟨w.heap.size, 9, none⟩ = some (.int .i64 s.fi) ∧ W.cell? ⟨w.heap.size, 10, none⟩ = some (.int .i64 s.sent) ∧ W.cell? ⟨w.heap.size, 11, none⟩ = some (.int .i64 s.code)) := Lib.hid fun W h => h.cells
  clear hr hn
  go_enter Try.func24, Try.ntmps24
  go_upto_region 1 with fail
  generalize (w.alloc (.cells (snB s (.slice A1 s.rn.cs.length c1) (.slice A2 s.pe.length c2) (.slice A3 s.fl.length c3) (.slice A4 s.ac.length c4)) 35)).alloc (.cells (snC 0 0 0 0 (.slice none 0 0) (.slice none 0 0) (.slice none 0 0) (.slice none 0 0) 0 0 0 0) 35) = w2 at *
  have HK0 := Lib.hid (HSC.out _ HH.out.drew)
  obtain ⟨a0, a1, a2, a3, a4, a5, a6, a7, a8, a9, a10, a11⟩ := HH.out.b.cells
  obtain ⟨q0, q1, q2, q3, q4, q5, q6, q7, q8, q9, q10, q11⟩ := HH.out.o.cells
  have qf := HH.out.o.free
  go_region_held3 (fun W => W.cell? ⟨w.heap.size, 0, none⟩ = some (.int .i64 s.st) ∧ W.cell? ⟨w.heap.size, 1, none⟩ = some (.int .i64 s.rn.size) ∧ W.cell? ⟨w.heap.size, 2, none⟩ = some (.int .i64 s.rn.base) ∧ W.cell? ⟨w.heap.size, 3, none⟩ = some (.int .i64 s.rn.en) ∧ W.cell? ⟨w.heap.size, 4, none⟩ = some (.slice A1 s.rn.cs.length c1) ∧ W.cell? ⟨w.heap.size, 5, none⟩ = some (.slice A2 s.pe.length c2) ∧ W.cell? ⟨w.heap.size, 6, none⟩ = some (.slice A3 s.fl.length c3) ∧ W.cell? ⟨w.heap.size, 7, none⟩ = some (.slice A4 s.ac.length c4) ∧ W.cell? ⟨w.heap.size, 8, none⟩ = some (.int .i64 s.fin) ∧ W.cell? ⟨w.heap.size, 9, none⟩ = some (.int .i64 s.fi) ∧ W.cell? ⟨w.heap.size, 10, none⟩ = some (.int .i64 s.sent) ∧ W.cell? ⟨w.heap.size, 11, none⟩ = some (.int .i64 s.code)) (first | with_reducible exact HK0.out | with_reducible exact HK1.out | with_reducible exact HK2.out | with_reducible exact HK3.out | with_reducible exact HK4.out | with_reducible exact HK5.out) (first
    | (go_at_call 53; refine (HC1.out _ HH.out.drew.bl).mono ?_; rintro e w3 ⟨u1, rfl, ho1, hb1⟩; obtain ⟨B1, d1, rfl, _, _⟩ := ho1.frs; have HH1 := Lib.hid (HH.out.drew.next hb1); have HK1 := Lib.hid (HSC.out _ HH1.out); have HO1 := Lib.hid (ho1.weaken HH.out.drew.sz); have HL1 := Lib.hid (fun k hk => (ho1.lt k hk).2); clear ho1 hb1)
    | (go_at_call 54; ((with_reducible refine (HC2.out _ HH1.out.bl).mono ?_); rintro e w4 ⟨u2, rfl, ho2, hb2⟩; obtain ⟨B2, d2, rfl, _, _⟩ := ho2.p.frs; have HH2 := Lib.hid (HH1.out.next hb2); have HK2 := Lib.hid (HSC.out _ HH2.out); have HP1 := Lib.hid (HO1.out.later hb2); have HO2 := Lib.hid (ho2.p.weaken HH1.out.sz); have HG2 := Lib.hid ho2.p.lo; have HL2 := Lib.hid (fun k hk => (ho2.p.lt k hk).2); have HZ2 := Lib.hid hb2.size; clear ho2 hb2 HO1))
    | (go_at_call 54; ((with_reducible refine (HC3.out _ HH2.out.bl).mono ?_); rintro e w5 ⟨u3, rfl, ho3, hb3⟩; obtain ⟨B3, d3, rfl, _, _⟩ := ho3.p.frs; have HH3 := Lib.hid (HH2.out.next hb3); have HK3 := Lib.hid (HSC.out _ HH3.out); have HQ1 := Lib.hid (HP1.out.later hb3); have HP2 := Lib.hid (HO2.out.later hb3); have HO3 := Lib.hid (ho3.p.weaken HH2.out.sz); have HG3 := Lib.hid ho3.p.lo; have HL3 := Lib.hid (fun k hk => (ho3.p.lt k hk).2); have HZ3 := Lib.hid hb3.size; clear ho3 hb3 HP1 HO2))
    | (go_at_call 54; ((with_reducible refine (HC4.out _ HH3.out.bl).mono ?_); rintro e w6 ⟨u4, rfl, ho4, hb4⟩; obtain ⟨B4, d4, rfl, _, _⟩ := ho4.p.frs; have HH4 := Lib.hid (HH3.out.next hb4); have HK4 := Lib.hid (HSC.out _ HH4.out); have HR1 := Lib.hid (HQ1.out.later hb4); have HQ2 := Lib.hid (HP2.out.later hb4); have HP3 := Lib.hid (HO3.out.later hb4); have HO4 := Lib.hid (ho4.p.weaken HH3.out.sz); have HG4 := Lib.hid ho4.p.lo; have HK5 := Lib.hid (HCZ.out _ (HH4.out.b.laid (w.heap.size + 1) s (.slice B1 s.rn.cs.length d1) (.slice B2 s.pe.length d2) (.slice B3 s.fl.length d3) (.slice B4 s.ac.length d4) (by omega))); obtain ⟨t0, t1, t2, t3, t4, t5, t6, t7, t8, t9, t10, t11⟩ := HH4.out.o.cells; have tf := HH4.out.o.free; clear ho4 hb4 HQ1 HP2 HO3)))
  all_goals (
    have HS := Lib.hid (OwnS.made HR1.out HQ2.out HP3.out HO4.out HL1.out HG2.out HL2.out HG3.out HL3.out HG4.out HZ2.out HZ3.out)
    go_wp2
    have X := HH4.out.out s _ _ _ _ HS.out
    refine bodyPost_ret (results_cell_row rfl _ _ (w.heap.size + 1) _ _ _ _ rfl X.1 Try.underlying35 rfl (by kernel_rfl)) rfl ?_
    exact ⟨_, _, _, _, rfl, X.2.1, X.2.2⟩)

end Go.Proofs.Ytjohbfdifdjldac

namespace Go.Proofs.Ytjohbfdifdjldac
open Go.RowKit Go.Deep Go.Proofs.Ytjohbfdifdjldac.Num

/-- spec.IsSender -/
theorem sissnT (s : Sn) (A1 A2 A3 A4 : Option Addr) (c1 c2 c3 c4 B : Nat) (w : World) (hB : B ≤ w.heap.size) (hr : ReadS w B A1 A2 A3 A4 s) (hn : LenS 10000000 s) (hx : inRn s.rn) :
    Calls Try.prog 25 #[snV s (.slice A1 s.rn.cs.length c1) (.slice A2 s.pe.length c2) (.slice A3 s.fl.length c3) (.slice A4 s.ac.length c4)] w fun e w' => e = .returned (.bool (decide (okSn s))) ∧ Below w.heap.size w w' := by
  by_cases h0 : fitS s ∧ ¬ (s.st = 4 ∨ s.st = 5)
  rotate_left
  · exact sissnD s A1 A2 A3 A4 c1 c2 c3 c4 B w hB hr hn hx h0
  by_cases h1 : cntR (allS s) = s.rn.en ∧ cntR s.pe + cntR s.fl + cntR s.ac = s.rn.en
  rotate_left
  · exact sissnA s A1 A2 A3 A4 c1 c2 c3 c4 B w hB hr hn hx h0.1 h0.2 h1
  by_cases h3 : (0 < s.rn.en → highS (allS s) = s.rn.en) ∧ gapR s.ac 0 = s.rn.base
  rotate_left
  · exact sissnE s A1 A2 A3 A4 c1 c2 c3 c4 B w hB hr hn hx h0.1 h0.2 h1 h3
  by_cases h2 : 0 < s.rn.en
  · exact sissnB s A1 A2 A3 A4 c1 c2 c3 c4 B w hB hr hn hx h0.1 h0.2 h1 h2 (h3.1 h2) h3.2
  · exact sissnC s A1 A2 A3 A4 c1 c2 c3 c4 B w hB hr hn hx h0.1 h0.2 h1 h2 h3.2
end Go.Proofs.Ytjohbfdifdjldac

namespace Go.Proofs.Ytjohbfdifdjldac
open Go.RowKit Go.Deep Go.Proofs.Ytjohbfdifdjldac.Num

set_option maxRecDepth 100000 in
set_option maxHeartbeats 8000000 in
/-- spec.AckReset -/
theorem sackrs (s : Sn) (A1 A2 A3 A4 : Option Addr) (c1 c2 c3 c4 B : Nat) (w : World) (hB : B ≤ w.heap.size) (hr : ReadS w B A1 A2 A3 A4 s) (hn : LenS 10000000 s) (hx : inSn s) :
    Calls Try.prog 16 #[snV s (.slice A1 s.rn.cs.length c1) (.slice A2 s.pe.length c2) (.slice A3 s.fl.length c3) (.slice A4 s.ac.length c4)] w fun e w' => ∃ v1 v2 v3 v4, e = .returned (.tuple #[snV (arS (decide (okSn s)) s) v1 v2 v3 v4, .bool (decide (decide (okSn s) = true ∧ s.st = 4))]) ∧ OwnSn w' w.heap.size v1 v2 v3 v4 (arS (decide (okSn s)) s) ∧ Below w.heap.size w w' := by
  have HH := Lib.hid (IrS.start w (fun _ => none) s (.slice A1 s.rn.cs.length c1) (.slice A2 s.pe.length c2) (.slice A3 s.fl.length c3) (.slice A4 s.ac.length c4))
  have HCP : Hid (∀ W, Below w.heap.size w W → Calls Try.prog 24 #[snV s (.slice A1 s.rn.cs.length c1) (.slice A2 s.pe.length c2) (.slice A3 s.fl.length c3) (.slice A4 s.ac.length c4)] W fun e w' => ∃ v1 v2 v3 v4, e = .returned (snV s v1 v2 v3 v4) ∧ OwnSn w' W.heap.size v1 v2 v3 v4 s ∧ Below W.heap.size W w') := Lib.hid fun W h => scopyS s A1 A2 A3 A4 c1 c2 c3 c4 B W (Nat.le_trans hB h.size) (hr.below hB h) (hn.up (by decide))
  have HIS : Hid (∀ W, Below w.heap.size w W → Calls Try.prog 25 #[snV s (.slice A1 s.rn.cs.length c1) (.slice A2 s.pe.length c2) (.slice A3 s.fl.length c3) (.slice A4 s.ac.length c4)] W fun e w' => e = .returned (.bool (decide (okSn s))) ∧ Below W.heap.size W w') := Lib.hid fun W h => sissnT s A1 A2 A3 A4 c1 c2 c3 c4 B W (Nat.le_trans hB h.size) (hr.below hB h) (hn.up (by decide)) hx.2.1
  clear hr hn hx
  by_cases hok : okSn s
  rotate_left
  · skip
    have hno : ¬ (decide (okSn s) = true ∧ s.st = 4) := fun h => hok (of_decide_eq_true h.1)
    rw [show arS (decide (okSn s)) s = s from if_neg hno, decide_eq_false hno]
    rw [decide_eq_false hok] at HIS
    clear hno hok
    go_enter Try.func16, Try.ntmps16
    obtain ⟨a0, a1, a2, a3, a4, a5, a6, a7, a8, a9, a10, a11⟩ := HH.out.b.cells
    go_wp2_with fail
    refine (HCP.out _ HH.out.bl).mono ?_
    rintro e w3 ⟨u1, u2, u3, u4, rfl, ho, hb⟩
    have HF := Lib.hid (FrS.start (HH.out.next hb) (ho.weaken HH.out.sz))
    obtain ⟨B1, B2, B3, B4, d1, d2, d3, d4, rfl, rfl, rfl, rfl, _, _, _, _⟩ := ho.frs
    clear ho hb a0 a1 a2 a3 a4 a5 a6 a7 a8 a9 a10 a11 HCP
    go_upto_region 2 with fail
    generalize w3.alloc (.cells (snB s (.slice B1 s.rn.cs.length d1) (.slice B2 s.pe.length d2) (.slice B3 s.fl.length d3) (.slice B4 s.ac.length d4)) 35) = w4 at *
    generalize w3.heap.size = gx at *
    obtain ⟨a0, a1, a2, a3, a4, a5, a6, a7, a8, a9, a10, a11⟩ := HF.out.i.b.cells
    go_wp2_with fail
    refine (HIS.out _ HF.out.i.bl).mono ?_
    rintro e w5 ⟨rfl, hb5⟩
    have HF := Lib.hid (HF.out.next hb5)
    clear hb5 a0 a1 a2 a3 a4 a5 a6 a7 a8 a9 a10 a11 HIS
    obtain ⟨a0, a1, a2, a3, a4, a5, a6, a7, a8, a9, a10, a11⟩ := HF.out.i.b.cells
    obtain ⟨x0, x1, x2, x3, x4, x5, x6, x7, x8, x9, x10, x11⟩ := HF.out.b.cells
    (try simp only at x0 x1 x2 x3 x4 x5 x6 x7 x8 x9 x10 x11)
    obtain ⟨q0, q1, q2, q3, q4, q5, q6, q7, q8, q9, q10, q11⟩ := HF.out.i.o.cells
    have qf := HF.out.i.o.free
    go_wp2
    have X := HF.out.out
    refine bodyPost_ret (results_ct rfl _ _ (w.heap.size + 1) _ _ _ _ rfl X.1 Try.underlying35 rfl (by kernel_rfl)) rfl ?_
    exact ⟨_, _, _, _, rfl, X.2.1, X.2.2⟩
  by_cases h1 : s.st = 4
  rotate_left
  · skip
    have hno : ¬ (decide (okSn s) = true ∧ s.st = 4) := fun h => h1 h.2
    rw [show arS (decide (okSn s)) s = s from if_neg hno, decide_eq_false hno]
    rw [decide_eq_true hok] at HIS
    have t1 : (s.st != 4) = true := by simpa using h1
    clear hno hok h1
    go_enter Try.func16, Try.ntmps16
    obtain ⟨a0, a1, a2, a3, a4, a5, a6, a7, a8, a9, a10, a11⟩ := HH.out.b.cells
    go_wp2_with fail
    refine (HCP.out _ HH.out.bl).mono ?_
    rintro e w3 ⟨u1, u2, u3, u4, rfl, ho, hb⟩
    have HF := Lib.hid (FrS.start (HH.out.next hb) (ho.weaken HH.out.sz))
    obtain ⟨B1, B2, B3, B4, d1, d2, d3, d4, rfl, rfl, rfl, rfl, _, _, _, _⟩ := ho.frs
    clear ho hb a0 a1 a2 a3 a4 a5 a6 a7 a8 a9 a10 a11 HCP
    go_upto_region 2 with fail
    generalize w3.alloc (.cells (snB s (.slice B1 s.rn.cs.length d1) (.slice B2 s.pe.length d2) (.slice B3 s.fl.length d3) (.slice B4 s.ac.length d4)) 35) = w4 at *
    generalize w3.heap.size = gx at *
    obtain ⟨a0, a1, a2, a3, a4, a5, a6, a7, a8, a9, a10, a11⟩ := HF.out.i.b.cells
    go_wp2_with fail
    refine (HIS.out _ HF.out.i.bl).mono ?_
    rintro e w5 ⟨rfl, hb5⟩
    have HF := Lib.hid (HF.out.next hb5)
    clear hb5 a0 a1 a2 a3 a4 a5 a6 a7 a8 a9 a10 a11 HIS
    obtain ⟨a0, a1, a2, a3, a4, a5, a6, a7, a8, a9, a10, a11⟩ := HF.out.i.b.cells
    obtain ⟨x0, x1, x2, x3, x4, x5, x6, x7, x8, x9, x10, x11⟩ := HF.out.b.cells
    (try simp only at x0 x1 x2 x3 x4 x5 x6 x7 x8 x9 x10 x11)
    obtain ⟨q0, q1, q2, q3, q4, q5, q6, q7, q8, q9, q10, q11⟩ := HF.out.i.o.cells
    have qf := HF.out.i.o.free
    go_wp2
    have X := HF.out.out
    refine bodyPost_ret (results_ct rfl _ _ (w.heap.size + 1) _ _ _ _ rfl X.1 Try.underlying35 rfl (by kernel_rfl)) rfl ?_
    exact ⟨_, _, _, _, rfl, X.2.1, X.2.2⟩
  have t1 : (s.st != 4) = false := by simpa using h1
  have hyes : decide (okSn s) = true ∧ s.st = 4 := ⟨decide_eq_true hok, h1⟩
  rw [show arS (decide (okSn s)) s = { s with st := 5 } from if_pos hyes, decide_eq_true hyes]
  rw [decide_eq_true hok] at HIS
  clear hyes hok h1
  go_enter Try.func16, Try.ntmps16
  obtain ⟨a0, a1, a2, a3, a4, a5, a6, a7, a8, a9, a10, a11⟩ := HH.out.b.cells
  go_wp2_with fail
  refine (HCP.out _ HH.out.bl).mono ?_
  rintro e w3 ⟨u1, u2, u3, u4, rfl, ho, hb⟩
  have HF := Lib.hid (FrS.start (HH.out.next hb) (ho.weaken HH.out.sz))
  obtain ⟨B1, B2, B3, B4, d1, d2, d3, d4, rfl, rfl, rfl, rfl, _, _, _, _⟩ := ho.frs
  clear ho hb a0 a1 a2 a3 a4 a5 a6 a7 a8 a9 a10 a11 HCP
  go_upto_region 2 with fail
  generalize w3.alloc (.cells (snB s (.slice B1 s.rn.cs.length d1) (.slice B2 s.pe.length d2) (.slice B3 s.fl.length d3) (.slice B4 s.ac.length d4)) 35) = w4 at *
  generalize w3.heap.size = gx at *
  obtain ⟨a0, a1, a2, a3, a4, a5, a6, a7, a8, a9, a10, a11⟩ := HF.out.i.b.cells
  go_wp2_with fail
  refine (HIS.out _ HF.out.i.bl).mono ?_
  rintro e w5 ⟨rfl, hb5⟩
  have HF := Lib.hid (HF.out.next hb5)
  clear hb5 a0 a1 a2 a3 a4 a5 a6 a7 a8 a9 a10 a11 HIS
  obtain ⟨a0, a1, a2, a3, a4, a5, a6, a7, a8, a9, a10, a11⟩ := HF.out.i.b.cells
  have xf := HF.out.b.free
  obtain ⟨x0, x1, x2, x3, x4, x5, x6, x7, x8, x9, x10, x11⟩ := HF.out.b.cells
  go_upto_region 5 with fail
  have HF := Lib.hid (HF.out.put0 5)
  clear xf a0 a1 a2 a3 a4 a5 a6 a7 a8 a9 a10 a11 x0 x1 x2 x3 x4 x5 x6 x7 x8 x9 x10 x11
  generalize w5.setCell ⟨gx, 0, none⟩ (.int .i64 5) = w6 at *
  obtain ⟨x0, x1, x2, x3, x4, x5, x6, x7, x8, x9, x10, x11⟩ := HF.out.b.cells
  (try simp only at x0 x1 x2 x3 x4 x5 x6 x7 x8 x9 x10 x11)
  obtain ⟨q0, q1, q2, q3, q4, q5, q6, q7, q8, q9, q10, q11⟩ := HF.out.i.o.cells
  have qf := HF.out.i.o.free
  go_wp2
  have X := HF.out.out
  refine bodyPost_ret (results_ct rfl _ _ (w.heap.size + 1) _ _ _ _ rfl X.1 Try.underlying35 rfl (by kernel_rfl)) rfl ?_
  exact ⟨_, _, _, _, rfl, X.2.1, X.2.2⟩
end Go.Proofs.Ytjohbfdifdjldac

namespace Go.Proofs.Ytjohbfdifdjldac.Num

theorem pkR_size {r : Rn} {o n : Int} (h : canP r o n) : ((pkR r o n).size : Int) = n := by
  unfold pkR
  rw [if_pos h]
  show (((peekL r.size o r.cs n.toNat).toArray.size : Nat) : Int) = n
  rw [List.size_toArray, peekL_len]
  have := h.2.2.1
  omega
theorem pkR_again {r : Rn} {o n : Int} (h : canP r o n) : pkR r o ((pkR r o n).size : Int) = pkR r o n := by rw [pkR_size h]
/-- What is to be sent lies in the ring. -/
theorem pe_low {s : Sn} (hw : wholeS s) (he : endS s) {n : Int} (h : hasR s.pe n) (ha : okR (-1) s.ac) : s.rn.base ≤ n ∧ n < s.rn.en := by
  have h1 := (hw.1 n).1 (.inl h)
  refine ⟨?_, h1.2⟩
  by_cases hb : s.rn.base ≤ n
  · exact hb
  · have h2 : n < gapR s.ac 0 := by rw [he.1]; omega
    exact absurd ⟨h, gapR_full s.ac (-1) 0 n ha h1.1 h2⟩ (hw.2.2.1 n)
theorem cutS_in {r : Rg} {m l : Int} (h1 : r.1 < min r.2 l) : cutS r m l ≤ r.2 ∧ cutS r m l ≤ l ∧ cutS r m l - r.1 ≤ max m 0 := by
  unfold cutS
  split <;> omega
/-- The next piece. -/
theorem nx_ok {s : Sn} (h : docSn s) {m l : Int} {p : Pc} (hp : nxS true s m l = some p) :
    canP s.rn p.off (p.data.size : Int) ∧ pkR s.rn p.off (p.data.size : Int) = p.data ∧ (p.data.size : Int) ≤ max m 0 ∧ (0 < p.data.size → p.off + (p.data.size : Int) ≤ l) ∧ (p.fin = true → p.off + (p.data.size : Int) = s.fin) ∧ canS true s p := by
  unfold nxS at hp
  by_cases hst : s.st ≤ 2
  rotate_left
  · rw [if_pos (fun h => hst h.2)] at hp; cases hp
  rw [if_neg (fun h => h ⟨rfl, hst⟩)] at hp
  obtain ⟨hf, hw, he⟩ := h.low (by omega)
  obtain ⟨f1, f2, f3, f4, f5, f6, f7, f8⟩ := hf
  obtain ⟨r1, r2, r3, r4, r5, r6, r7⟩ := f1
  cases hpe : s.pe with
  | nil =>
    rw [hpe] at hp
    dsimp only at hp
    by_cases hfi : s.fi = 1
    · rw [if_pos hfi] at hp
      injection hp with hp
      subst hp
      have hfn : s.fin ≠ -1 := fun e => by have := he.2.2.2.2.1.2 e; omega
      have hfe := he.2.2.2.2.2.1 hfn
      have hc : canP s.rn s.fin 0 := ⟨⟨r1, r2, r3, r4, r5, r6, r7⟩, by omega, Int.le_refl _, by omega, by omega⟩
      refine ⟨hc, ?_, by show (0 : Int) ≤ _; omega, fun h => absurd h (Nat.lt_irrefl 0), fun _ => by show s.fin + 0 = s.fin; omega, ⟨rfl, hst, ⟨by show 0 ≤ s.fin; omega, by show s.fin ≤ s.rn.en; omega, by show (0 : Int) ≤ s.rn.en - s.fin; omega, fun _ => ⟨hfn, by show s.fin + 0 = s.fin; omega⟩⟩, .inr rfl, fun _ => hfi⟩, fun h => absurd rfl h⟩
      show pkR s.rn s.fin 0 = _
      unfold pkR
      rw [if_pos hc]
      rfl
    · rw [if_neg hfi] at hp; cases hp
  | cons r L =>
    rw [hpe] at hp
    dsimp only at hp
    by_cases hc : min r.2 l ≤ r.1 ∨ cutS r m l ≤ r.1
    · rw [if_pos hc] at hp; cases hp
    · rw [if_neg hc] at hp
      injection hp with hp
      have hc1 : r.1 < min r.2 l := by omega
      have hc2 : r.1 < cutS r m l := by omega
      obtain ⟨q1, q2, q3⟩ := cutS_in (m := m) hc1
      have hm : ∀ n, r.1 ≤ n → n < r.2 → hasR s.pe n := fun n a b => by rw [hpe]; exact ⟨r, List.mem_cons_self .., a, b⟩
      have hr1 : r.1 < r.2 := by omega
      have l1 := pe_low hw he (hm r.1 (Int.le_refl _) hr1) f4
      have l2 := pe_low hw he (hm (r.2 - 1) (by omega) (by omega)) f4
      have hcp : canP s.rn r.1 (cutS r m l - r.1) := ⟨⟨r1, r2, r3, r4, r5, r6, r7⟩, l1.1, by omega, by omega, by omega⟩
      have hsz := pkR_size hcp
      subst hp
      have hs0 : 0 ≤ r.1 := by have := (hw.1 r.1).1 (.inl (hm r.1 (Int.le_refl _) hr1)); omega
      have hfin : ∀ (e : (decide (s.fi = 1) && decide (cutS r m l = s.fin)) = true), s.fi = 1 ∧ cutS r m l = s.fin := fun e => by simpa using e
      refine ⟨by show canP s.rn r.1 ((pkR s.rn r.1 (cutS r m l - r.1)).size : Int); rw [hsz]; exact hcp, pkR_again hcp, by show ((pkR s.rn r.1 (cutS r m l - r.1)).size : Int) ≤ _; omega, fun _ => by show r.1 + ((pkR s.rn r.1 (cutS r m l - r.1)).size : Int) ≤ _; omega, fun e => by have := hfin e; show r.1 + ((pkR s.rn r.1 (cutS r m l - r.1)).size : Int) = _; omega, ⟨rfl, hst, ⟨hs0, by show r.1 ≤ s.rn.en; omega, by show ((pkR s.rn r.1 (cutS r m l - r.1)).size : Int) ≤ s.rn.en - r.1; omega, fun e => ?_⟩, .inl (by show (pkR s.rn r.1 (cutS r m l - r.1)).size ≠ 0; omega), fun e => (hfin e).1⟩, fun _ => ?_⟩
      · have h9 := hfin e
        exact ⟨fun e2 => by have := he.2.2.2.2.1.2 e2; omega, by show r.1 + ((pkR s.rn r.1 (cutS r m l - r.1)).size : Int) = _; omega⟩
      · have hpc : pcR ⟨r.1, pkR s.rn r.1 (cutS r m l - r.1), decide (s.fi = 1) && decide (cutS r m l = s.fin)⟩ = (r.1, cutS r m l) := by
          unfold pcR
          dsimp only
          rw [hsz]
          congr 1
          omega
        rw [hpc]
        have ho : okR (-1) [(r.1, cutS r m l)] := ⟨by show (-1 : Int) < r.1; omega, hc2, by show cutS r m l ≤ _; omega, trivial⟩
        refine okR.uniq (comR_ok _ ho s.pe (-1) (Int.le_refl _) f2) ho (fun n => ?_)
        rw [comR_has, hasR_cons]
        constructor
        · rintro ⟨_, h2⟩; exact h2
        · intro h2
          rcases h2 with h2 | h2
          · exact ⟨hm n h2.1 (by have : n < cutS r m l := h2.2; omega), .inl h2⟩
          · exact absurd h2 (hasR_nil n)
/-- A state never falls. -/
theorem ak_st {s : Sn} (h : docSn s) (p : Pc) : s.st ≤ (akS true s p).st := by
  unfold akS
  split
  · rename_i hc
    obtain ⟨_, _, he⟩ := h.low (by have := hc.2.1; omega)
    have e1 := he.2.2.2.2.2.2
    have hst := hc.2.1
    show s.st ≤ folS _
    rw [e1] at hst ⊢
    unfold folS at hst ⊢
    dsimp only at hst ⊢
    generalize (drR s.rn (if okR (-1) (addLs s.ac (comS s p)) then gapR (addLs s.ac (comS s p)) 0 else -1)).base = x
    generalize (drR s.rn (if okR (-1) (addLs s.ac (comS s p)) then gapR (addLs s.ac (comS s p)) 0 else -1)).en = y
    by_cases c1 : s.fi = 3 ∧ s.rn.base = s.rn.en
    · rw [if_pos c1] at hst; omega
    · rw [if_neg c1] at hst ⊢
      repeat' split
      all_goals (try split at hst) <;> (try omega)
      all_goals omega
  · exact Int.le_refl _
theorem lo_st {s : Sn} (h : docSn s) (p : Pc) : s.st ≤ (loS true s p).st := by
  unfold loS
  split
  · rename_i hc
    obtain ⟨_, _, he⟩ := h.low (by have := hc.2.1; omega)
    have e1 := he.2.2.2.2.2.2
    have hst := hc.2.1
    show s.st ≤ folS _
    rw [e1] at hst ⊢
    unfold folS at hst ⊢
    dsimp only at hst ⊢
    repeat' split
    all_goals (try split at hst) <;> (try omega)
    all_goals omega
  · exact Int.le_refl _
/-- What is acknowledged stays so. -/
theorem ak_ac {s : Sn} (h : docSn s) (p : Pc) {n : Int} (hn : hasR s.ac n) : hasR (akS true s p).ac n := by
  unfold akS
  split
  · rename_i hc
    obtain ⟨hf, _, _⟩ := h.low (by have := hc.2.1; omega)
    have hcm := comS_ok hf.2.2.1 hc.2.2 hf.1.2.2.2.2.2.1
    exact ((addLs_ok (comS s p) s.ac (-1) (Int.le_refl _) hf.2.2.2.1 hcm.1).2 n).2 (.inl hn)
  · exact hn
theorem lo_ac {s : Sn} (p : Pc) : (loS true s p).ac = s.ac := by
  unfold loS
  split <;> rfl
/-- What is acknowledged is not sent again: a piece that is acknowledged and then reported lost leaves what is to be sent as it is. -/
theorem ak_lo {s : Sn} (h : docSn s) (p : Pc) (hc : canA true s p) : (loS true (akS true s p) p).pe = (akS true s p).pe := by
  have hd := akS_doc p h
  obtain ⟨hf, _, _⟩ := h.low (by have := hc.2.1; omega)
  have hcm := comS_ok hf.2.2.1 hc.2.2 hf.1.2.2.2.2.2.1
  have hrm := remLs_ok (comS s p) s.fl (-1) (Int.le_refl _) hf.2.2.1 hcm.1
  have hfl : (akS true s p).fl = remLs s.fl (comS s p) := by unfold akS; rw [if_pos hc]; rfl
  unfold loS
  split
  · rename_i hc2
    show addLs (akS true s p).pe (comS (akS true s p) p) = _
    have e0 : comS (akS true s p) p = [] := by
      have hf2 : okR (-1) (akS true s p).fl := by rw [hfl]; exact hrm.1
      obtain ⟨hg, _⟩ := hd
      have hk := comS_ok hf2 hc2.2.2 hg.1.2.2.2.2.2.1
      refine okR.uniq hk.1 (show okR (-1) ([] : List Rg) from trivial) (fun n => ⟨fun hn => ?_, fun hn => absurd hn (hasR_nil n)⟩)
      have h1 := (hk.2 n).1 hn
      rw [hfl] at h1
      have h2 := (hrm.2 n).1 h1.1
      exact absurd ((hcm.2 n).2 ⟨h2.1, h1.2⟩) h2.2
    rw [e0]
    rfl
  · rfl
end Go.Proofs.Ytjohbfdifdjldac.Num

namespace Go.Proofs.Ytjohbfdifdjldac.Num

/-- A receiver. -/
structure Rc where
  st : Int
  buf : Bf
  fin : Int
  hi : Int
  code : Int
def fullRc (r : Rc) : Prop := r.fin ≠ -1 ∧ r.buf.next + (rdyB r.buf : Int) = r.fin
instance (r : Rc) : Decidable (fullRc r) := by unfold fullRc; infer_instance
def headRc (r : Rc) : Prop := okB r.buf ∧ (0 ≤ r.hi ∧ r.hi ≤ 4611686018427387903) ∧ endB r.buf ≤ r.hi ∧ (0 ≤ r.code ∧ r.code ≤ 4611686018427387903) ∧ ¬ (r.fin ≠ -1 ∧ r.fin < r.hi) ∧ r.fin ≤ 4611686018427387903 ∧ -1 ≤ r.fin
instance (r : Rc) : Decidable (headRc r) := by unfold headRc; infer_instance
def stRc (r : Rc) : Prop := (r.st = 0 ∧ r.fin = -1 ∧ r.code = 0) ∨ (r.st = 1 ∧ r.fin ≠ -1 ∧ ¬ fullRc r ∧ r.code = 0) ∨ (r.st = 2 ∧ fullRc r ∧ r.code = 0) ∨ (r.st = 3 ∧ fullRc r ∧ r.buf.chs = [] ∧ r.code = 0) ∨ ((r.st = 4 ∨ r.st = 5) ∧ r.fin ≠ -1 ∧ r.hi = r.fin ∧ r.buf.chs = [])
instance (r : Rc) : Decidable (stRc r) := by unfold stRc; infer_instance
/-- The receiver is valid. -/
def okRc (r : Rc) : Prop := headRc r ∧ stRc r
instance (r : Rc) : Decidable (okRc r) := by unfold okRc; infer_instance
def newRc (r : Rc) (e : Int) : Int := if okRc r ∧ 0 ≤ e ∧ e ≤ 4611686018427387903 then max 0 (e - r.hi) else 0
/-- An end of data, or a final size, contradicts what is known. -/
def badRc (r : Rc) (e : Int) (f : Bool) : Prop := (r.fin ≠ -1 ∧ (r.fin < e ∨ (f = true ∧ e ≠ r.fin))) ∨ (f = true ∧ e < r.hi)
instance (r : Rc) (e : Int) (f : Bool) : Decidable (badRc r e f) := by unfold badRc; infer_instance
def fillRc (x : Rc) : Rc := if fullRc x then ⟨2, x.buf, x.fin, x.hi, x.code⟩ else x
theorem fillRc_buf (x : Rc) : (fillRc x).buf = x.buf := by
  unfold fillRc
  split <;> rfl
def datRc (r : Rc) (o : Int) (d : ByteArray) (f : Bool) : Rc := fillRc ⟨if f = true then 1 else r.st, insB r.buf o d, if f = true then o + d.size else r.fin, max r.hi (o + d.size), r.code⟩
def rcvRc (r : Rc) (o : Int) (d : ByteArray) (f : Bool) : Rc × Int :=
  if ¬ (okRc r ∧ 0 ≤ o ∧ o ≤ 4611686018427387903 - d.size) then (r, 7)
  else if badRc r (o + d.size) f then (r, 6)
  else if 1 < r.st then (r, 0)
  else (datRc r o d f, 0)
def rstRc (r : Rc) (c fn : Int) : Rc × Int :=
  if ¬ (okRc r ∧ (0 ≤ c ∧ c ≤ 4611686018427387903) ∧ 0 ≤ fn ∧ fn ≤ 4611686018427387903) then (r, 7)
  else if badRc r fn true then (r, 6)
  else if 1 < r.st then (r, 0)
  else (⟨4, ⟨r.buf.next, []⟩, fn, fn, c⟩, 0)
def readRc (r : Rc) (m : Int) : ByteArray × Rc :=
  if ¬ okRc r then (⟨#[]⟩, r)
  else if r.st = 4 then (⟨#[]⟩, ⟨5, r.buf, r.fin, r.hi, r.code⟩)
  else (headT r.buf (cntT r.buf m), ⟨if r.st = 2 ∧ (dropT r.buf (cntT r.buf m)).next = r.fin then 3 else r.st, dropT r.buf (cntT r.buf m), r.fin, r.hi, r.code⟩)
def gotRc (r : Rc) : Prop := okRc r ∧ (r.st = 3 ∨ r.st = 5)
instance (r : Rc) : Decidable (gotRc r) := by unfold gotRc; infer_instance
/-- All fields are equal. -/
def sameRc (r s : Rc) : Prop := r.st = s.st ∧ (r.buf.next = s.buf.next ∧ r.buf.chs = s.buf.chs) ∧ r.fin = s.fin ∧ r.hi = s.hi ∧ r.code = s.code
instance (r s : Rc) : Decidable (sameRc r s) := by unfold sameRc; infer_instance
/-- A new receiver. -/
def nuRc : Rc := ⟨0, ⟨0, []⟩, -1, 0, 0⟩
/-- All numbers fit an int. -/
def inRc (r : Rc) : Prop := (-9223372036854775808 ≤ r.st ∧ r.st ≤ 9223372036854775807) ∧ (-9223372036854775808 ≤ r.buf.next ∧ r.buf.next ≤ 9223372036854775807) ∧ (-9223372036854775808 ≤ r.fin ∧ r.fin ≤ 9223372036854775807) ∧ (-9223372036854775808 ≤ r.hi ∧ r.hi ≤ 9223372036854775807) ∧ (-9223372036854775808 ≤ r.code ∧ r.code ≤ 9223372036854775807)
theorem rcvRc_len (r : Rc) (o : Int) (d : ByteArray) (f : Bool) : (rcvRc r o d f).1.buf.chs.length ≤ r.buf.chs.length + 1 := by
  have h := insB_len2 r.buf o d
  unfold rcvRc
  split
  · exact Nat.le_succ _
  · split
    · exact Nat.le_succ _
    · split
      · exact Nat.le_succ _
      · show (datRc r o d f).buf.chs.length ≤ _
        rw [show (datRc r o d f).buf = insB r.buf o d from fillRc_buf _]
        exact h
theorem rstRc_len (r : Rc) (c fn : Int) : (rstRc r c fn).1.buf.chs.length ≤ r.buf.chs.length := by
  unfold rstRc
  split
  · exact Nat.le_refl _
  · split
    · exact Nat.le_refl _
    · split
      · exact Nat.le_refl _
      · exact Nat.zero_le _
theorem readRc_len (r : Rc) (m : Int) : (readRc r m).2.buf.chs.length ≤ r.buf.chs.length := by
  have h := dropT_len2 r.buf (cntT r.buf m)
  unfold readRc
  split
  · exact Nat.le_refl _
  · split
    · exact Nat.le_refl _
    · exact h
/-- The bytes that are ready end at the end or before. -/
theorem rdyB_le {b : Bf} (h : okB b) : b.next + (rdyB b : Int) ≤ endB b := by
  by_cases h0 : rdyB b = 0
  · rw [h0]; have := endB_ge h; omega
  · obtain ⟨_, c, l, hl, hn, hs⟩ := rdyB_pos h0
    have := endB_max h c (by rw [hl]; exact List.mem_cons_self ..)
    omega
end Go.Proofs.Ytjohbfdifdjldac.Num

namespace Go.Proofs.Ytjohbfdifdjldac.Num

/-- An insert raises the end to its own at most. -/
theorem end_ins_le {b : Bf} {o : Int} {d : ByteArray} (h : okB b) : endB (insB b o d) ≤ max (endB b) (o + d.size) := by
  by_cases hc : canI b o d
  · have hy := insB_ok b o d h
    have hge := endB_ge h
    cases hz : (insB b o d).chs.getLast? with
    | none =>
      have e : endB (insB b o d) = (insB b o d).next := by unfold endB; rw [if_pos hy, hz]
      rw [e, insB_next]
      omega
    | some z =>
      have hzm := List.mem_of_getLast? hz
      have e : endB (insB b o d) = z.off + z.data.size := by unfold endB; rw [if_pos hy, hz]
      have h4 := okR.below hy.1 (ckR z) (List.mem_map_of_mem hzm)
      have h6 : z.off < z.off + (z.data.size : Int) := h4.2.1
      have hb : 0 ≤ byteB (insB b o d).chs (endB (insB b o d) - 1) := (byteB_has _ _ (by have := hy.2; omega) hy.1 _).2 ⟨ckR z, List.mem_map_of_mem hzm, by show z.off ≤ _ - 1; omega, by show _ - 1 < z.off + z.data.size; omega⟩
      rw [insB_byte b o d hc] at hb
      by_cases h0 : 0 ≤ byteB b.chs (endB (insB b o d) - 1)
      · obtain ⟨r, hr, _, h1⟩ := (byteB_has _ _ (by have := h.2; omega) h.1 _).1 h0
        obtain ⟨c, hcm, rfl⟩ := List.mem_map.1 hr
        have h7 := endB_max h c hcm
        have h8 : endB (insB b o d) - 1 < c.off + (c.data.size : Int) := h1
        omega
      · rw [if_neg h0] at hb
        by_cases h1 : max o b.next ≤ endB (insB b o d) - 1 ∧ endB (insB b o d) - 1 < o + d.size
        · omega
        · rw [if_neg h1] at hb
          omega
  · rw [show insB b o d = b from if_neg hc]
    omega
theorem drop_size (c : Ch) (n : Nat) : (⟨(c.data.data.toList.drop n).toArray⟩ : ByteArray).size = c.data.size - n := by
  show (c.data.data.toList.drop n).toArray.size = _
  simp
/-- What taking leaves: its end, what is ready. -/
theorem drop_facts {b : Bf} (h : okB b) (m : Int) : endB (dropT b (cntT b m)) ≤ endB b ∧ (dropT b (cntT b m)).next + (rdyB (dropT b (cntT b m)) : Int) = b.next + rdyB b ∧ (dropT b (cntT b m)).next = b.next + cntT b m ∧ (b.chs = [] → (dropT b (cntT b m)).chs = []) := by
  have hok := dropT_ok b m h
  by_cases h0 : cntT b m = 0
  · rw [h0, show dropT b 0 = b from if_pos rfl]
    exact ⟨Int.le_refl _, rfl, by simp, fun x => x⟩
  · have hr : rdyB b ≠ 0 := by unfold cntT at h0; omega
    obtain ⟨_, c, l, hl, hn, hs⟩ := rdyB_pos hr
    have hle : cntT b m ≤ c.data.size := by unfold cntT; omega
    generalize cntT b m = n at *
    have he := endB_max h
    have hec := he c (by rw [hl]; exact List.mem_cons_self ..)
    have hd : dropT b n = ⟨b.next + n, if n = c.data.size then l else ⟨b.next + n, ⟨(c.data.data.toList.drop n).toArray⟩⟩ :: l⟩ := by
      unfold dropT
      rw [if_neg h0, hl]
    rw [hd] at hok ⊢
    have h1 := h.1
    rw [hl] at h1
    have h3 : okR (c.off + c.data.size) (l.map ckR) := h1.2.2.2
    refine ⟨?_, ?_, rfl, fun x => by rw [x] at hl; cases hl⟩
    · unfold endB
      rw [if_pos hok]
      show (match (if n = c.data.size then l else ⟨b.next + n, ⟨(c.data.data.toList.drop n).toArray⟩⟩ :: l).getLast? with | none => b.next + (n : Int) | some c => c.off + c.data.size) ≤ _
      cases hz : (if n = c.data.size then l else ⟨b.next + n, ⟨(c.data.data.toList.drop n).toArray⟩⟩ :: l).getLast? with
      | none =>
        show b.next + (n : Int) ≤ endB b
        omega
      | some z =>
        have hzm := List.mem_of_getLast? hz
        show z.off + (z.data.size : Int) ≤ endB b
        by_cases hnc : n = c.data.size
        · rw [if_pos hnc] at hzm
          exact he z (by rw [hl]; exact List.mem_cons_of_mem _ hzm)
        · rw [if_neg hnc] at hzm
          rcases List.mem_cons.1 hzm with rfl | hzm
          · rw [drop_size]
            show b.next + (n : Int) + ((c.data.size - n : Nat) : Int) ≤ endB b
            omega
          · exact he z (by rw [hl]; exact List.mem_cons_of_mem _ hzm)
    · by_cases hnc : n = c.data.size
      · have hz : rdyB ⟨b.next + n, if n = c.data.size then l else ⟨b.next + n, ⟨(c.data.data.toList.drop n).toArray⟩⟩ :: l⟩ = 0 := by
          unfold rdyB
          rw [if_pos hok, if_pos hnc]
          cases l with
          | nil => rfl
          | cons x l =>
            have h5 : c.off + (c.data.size : Int) < x.off := h3.1
            show (if x.off = b.next + (n : Int) then _ else 0) = 0
            rw [if_neg (by omega)]
        rw [hz, hs, hnc]
        show b.next + (c.data.size : Int) + ((0 : Nat) : Int) = _
        omega
      · have hz : rdyB ⟨b.next + n, if n = c.data.size then l else ⟨b.next + n, ⟨(c.data.data.toList.drop n).toArray⟩⟩ :: l⟩ = c.data.size - n := by
          unfold rdyB
          rw [if_pos hok, if_neg hnc]
          show (if b.next + (n : Int) = b.next + (n : Int) then (⟨(c.data.data.toList.drop n).toArray⟩ : ByteArray).size else 0) = _
          rw [if_pos rfl, drop_size]
        rw [hz, hs]
        show b.next + (n : Int) + ((c.data.size - n : Nat) : Int) = _
        omega
/-- Where nothing stands behind a place, and all before it is read, nothing is left. -/
theorem no_chunks {b : Bf} (h : okB b) (he : endB b ≤ b.next) : b.chs = [] := by
  cases hl : b.chs with
  | nil => rfl
  | cons c l =>
    have h4 := okR.below h.1 (ckR c) (List.mem_map_of_mem (by rw [hl]; exact List.mem_cons_self ..))
    have h5 : b.next - 1 < c.off := h4.1
    have h6 : c.off < c.off + (c.data.size : Int) := h4.2.1
    have h7 := endB_max h c (by rw [hl]; exact List.mem_cons_self ..)
    omega
theorem okRc_fill {x : Rc} (hh : headRc x) (hc : x.code = 0) (hs : ¬ fullRc x → stRc x) : okRc (fillRc x) := by
  unfold fillRc
  by_cases hf : fullRc x
  · rw [if_pos hf]
    exact ⟨hh, .inr (.inr (.inl ⟨rfl, hf, hc⟩))⟩
  · rw [if_neg hf]
    exact ⟨hh, hs hf⟩
/-- A state that isn't past all data. -/
theorem okRc_low {r : Rc} (h : okRc r) (hs : ¬ 1 < r.st) : r.code = 0 ∧ ((r.st = 0 ∧ r.fin = -1) ∨ (r.st = 1 ∧ r.fin ≠ -1 ∧ ¬ fullRc r)) := by
  rcases h.2 with ⟨h0, h1, h2⟩ | ⟨h0, h1, h2, h3⟩ | ⟨h0, _⟩ | ⟨h0, _⟩ | ⟨h0 | h0, _⟩
  · exact ⟨h2, .inl ⟨h0, h1⟩⟩
  · exact ⟨h3, .inr ⟨h0, h1, h2⟩⟩
  all_goals omega
theorem okRc_dat {r : Rc} {o : Int} {d : ByteArray} {f : Bool} (h : okRc r) (h0 : 0 ≤ o) (h1 : o ≤ 4611686018427387903 - d.size) (hb : ¬ badRc r (o + d.size) f) (hs : ¬ 1 < r.st) : okRc (datRc r o d f) := by
  obtain ⟨hc, hst⟩ := okRc_low h hs
  obtain ⟨⟨a1, a2, a3, a4, a5, a6, a7⟩, _⟩ := h
  have e1 := end_ins_le (b := r.buf) (o := o) (d := d) a1
  unfold badRc at hb
  have hb1 : r.fin ≠ -1 → o + (d.size : Int) ≤ r.fin := fun hf => by
    have : ¬ r.fin < o + (d.size : Int) := fun hx => hb (.inl ⟨hf, .inl hx⟩)
    omega
  have a5' : r.fin ≠ -1 → r.hi ≤ r.fin := fun hf => by
    have : ¬ r.fin < r.hi := fun hx => a5 ⟨hf, hx⟩
    omega
  unfold datRc
  refine okRc_fill ⟨insB_ok _ _ _ a1, ⟨by show 0 ≤ max r.hi _; omega, by show max r.hi _ ≤ _; omega⟩, by show endB (insB r.buf o d) ≤ max r.hi _; omega, a4, ?_, ?_, ?_⟩ hc ?_
  · cases f with
    | false =>
      rintro ⟨hf, hlt⟩
      have hf : r.fin ≠ -1 := hf
      have hlt : r.fin < max r.hi (o + (d.size : Int)) := hlt
      have := hb1 hf
      have := a5' hf
      omega
    | true =>
      rintro ⟨_, hlt⟩
      have hlt : o + (d.size : Int) < max r.hi (o + (d.size : Int)) := hlt
      have : ¬ o + (d.size : Int) < r.hi := fun hx => hb (.inr ⟨rfl, hx⟩)
      omega
  · cases f with
    | false => exact a6
    | true => show o + (d.size : Int) ≤ _; omega
  · cases f with
    | false => exact a7
    | true => show -1 ≤ o + (d.size : Int); omega
  · intro hnf
    cases f with
    | false =>
      rcases hst with ⟨s0, s1⟩ | ⟨s0, s1, s2⟩
      · exact .inl ⟨s0, s1, hc⟩
      · exact .inr (.inl ⟨s0, s1, hnf, hc⟩)
    | true => exact .inr (.inl ⟨rfl, by show o + (d.size : Int) ≠ -1; omega, hnf, hc⟩)
/-- Receiving leaves a receiver valid. -/
theorem okRc_rcv {r : Rc} (o : Int) (d : ByteArray) (f : Bool) (h : okRc r) : okRc (rcvRc r o d f).1 := by
  unfold rcvRc
  split
  · exact h
  · rename_i hv
    have hv := Decidable.not_not.1 hv
    split
    · exact h
    · rename_i hb
      split
      · exact h
      · rename_i hs
        exact okRc_dat h hv.2.1 hv.2.2 hb hs
theorem okRc_rst {r : Rc} (c n : Int) (h : okRc r) : okRc (rstRc r c n).1 := by
  unfold rstRc
  split
  · exact h
  · rename_i hv
    have hv := Decidable.not_not.1 hv
    split
    · exact h
    · rename_i hb
      split
      · exact h
      · have e1 := endB_ge h.1.1
        have e2 := h.1.2.2.1
        have e3 : ¬ n < r.hi := fun hx => hb (.inr ⟨rfl, hx⟩)
        have hok : okB ⟨r.buf.next, []⟩ := ⟨trivial, h.1.1.2⟩
        refine ⟨⟨hok, hv.2.2, ?_, hv.2.1, ?_, hv.2.2.2, ?_⟩, .inr (.inr (.inr (.inr ⟨.inl rfl, ?_, rfl, rfl⟩)))⟩
        · have : endB ⟨r.buf.next, []⟩ = r.buf.next := by unfold endB; rw [if_pos hok]; rfl
          rw [this]
          show r.buf.next ≤ n
          omega
        · rintro ⟨_, hx⟩
          have hx : n < n := hx
          omega
        · show -1 ≤ n; have := hv.2.2.1; omega
        · show n ≠ -1; have := hv.2.2.1; omega
/-- Reading leaves a receiver valid. -/
theorem okRc_read {r : Rc} (m : Int) (h : okRc r) : okRc (readRc r m).2 := by
  unfold readRc
  rw [if_neg (fun x => x h)]
  by_cases h4 : r.st = 4
  · rw [if_pos h4]
    refine ⟨h.1, ?_⟩
    rcases h.2 with ⟨h0, _⟩ | ⟨h0, _⟩ | ⟨h0, _⟩ | ⟨h0, _⟩ | ⟨_, h1⟩
    · omega
    · omega
    · omega
    · omega
    · exact .inr (.inr (.inr (.inr ⟨.inr rfl, h1⟩)))
  · rw [if_neg h4]
    obtain ⟨d1, d2, d3, d4⟩ := drop_facts h.1.1 m
    have hok := dropT_ok r.buf m h.1.1
    have hle := h.1.2.2.1
    have hff : r.fin ≠ -1 → r.hi ≤ r.fin := fun hf => by
      have : ¬ r.fin < r.hi := fun hx => h.1.2.2.2.2.1 ⟨hf, hx⟩
      omega
    generalize dropT r.buf (cntT r.buf m) = b at *
    have hd : headRc ⟨if r.st = 2 ∧ b.next = r.fin then 3 else r.st, b, r.fin, r.hi, r.code⟩ := ⟨hok, h.1.2.1, by show endB b ≤ r.hi; omega, h.1.2.2.2⟩
    refine ⟨hd, ?_⟩
    have hfull : ∀ s, fullRc ⟨s, b, r.fin, r.hi, r.code⟩ ↔ fullRc r := fun s => by
      unfold fullRc
      show (r.fin ≠ -1 ∧ b.next + (rdyB b : Int) = r.fin) ↔ _
      rw [d2]
    rcases h.2 with ⟨h0, h1, h2⟩ | ⟨h0, h1, h2, h3⟩ | ⟨h0, h1, h2⟩ | ⟨h0, h1, h2, h3⟩ | ⟨h0, h1, h2, h3⟩
    · rw [if_neg (by omega)]
      exact .inl ⟨h0, h1, h2⟩
    · rw [if_neg (by omega)]
      exact .inr (.inl ⟨h0, h1, fun x => h2 ((hfull _).1 x), h3⟩)
    · by_cases hn : b.next = r.fin
      · rw [if_pos ⟨h0, hn⟩]
        have hb : b.chs = [] := no_chunks hok (by have := hff h1.1; omega)
        exact .inr (.inr (.inr (.inl ⟨rfl, (hfull _).2 h1, hb, h2⟩)))
      · rw [if_neg (fun x => hn x.2)]
        exact .inr (.inr (.inl ⟨h0, (hfull _).2 h1, h2⟩))
    · rw [if_neg (by omega)]
      exact .inr (.inr (.inr (.inl ⟨h0, (hfull _).2 h1, d4 h2, h3⟩)))
    · rw [if_neg (by omega)]
      exact .inr (.inr (.inr (.inr ⟨h0, h1, h2, d4 h3⟩)))
end Go.Proofs.Ytjohbfdifdjldac.Num

namespace Go.Proofs.Ytjohbfdifdjldac.Num

theorem byt_two (d : ByteArray) (k : Nat) : bytD d k = byt8 d k := by
  unfold bytD byt8
  by_cases h : k < d.size
  · rw [dif_pos h, List.getD_eq_getElem?_getD, List.getElem?_eq_getElem (by rw [Array.length_toList]; exact h)]
    rfl
  · rw [dif_neg h, List.getD_eq_getElem?_getD, List.getElem?_eq_none (by rw [Array.length_toList]; exact Nat.le_of_not_lt h)]
    rfl
theorem bytes_eq {a b : ByteArray} (hs : a.size = b.size) (h : ∀ i, i < b.size → bytD a i = bytD b i) : a = b := by
  have e : a.data.toList = b.data.toList := by
    apply List.ext_getElem
    · rw [Array.length_toList, Array.length_toList]; exact hs
    · intro i h1 h2
      have h3 : i < b.size := by rw [Array.length_toList] at h2; exact h2
      have h4 := h i h3
      unfold bytD at h4
      rw [List.getD_eq_getElem?_getD, List.getD_eq_getElem?_getD, List.getElem?_eq_getElem h1, List.getElem?_eq_getElem h2] at h4
      have h5 : ((a.data.toList[i]).toNat : Int) = ((b.data.toList[i]).toNat : Int) := by simpa using h4
      exact UInt8.toNat_inj.1 (Int.ofNat_inj.1 h5)
  have e2 : a.data = b.data := Array.toList_inj.1 e
  cases a; cases b; simp_all
/-- The byte at a place of a peek. -/
theorem peekL_at (sz o : Int) (cs : List Int) (k : Nat) : ∀ i, i < k → (peekL sz o cs k)[i]? = some (UInt8.ofNat (cs.getD (atR sz (o + i)) 0).toNat) := by
  induction k with
  | zero => intro i h; omega
  | succ k ih =>
    intro i hi
    show (peekL sz o cs k ++ [_])[i]? = _
    by_cases h : i < k
    · rw [List.getElem?_append_left (by rw [peekL_len]; exact h), ih i h]
    · have : i = k := by omega
      subst this
      rw [List.getElem?_append_right (by rw [peekL_len]; exact Nat.le_refl _), peekL_len, Nat.sub_self]
      rfl
theorem pkR_byte {r : Rn} {o n : Int} (h : canP r o n) (i : Nat) (hi : (i : Int) < n) (hv : 0 ≤ r.cs.getD (atR r.size (o + i)) 0 ∧ r.cs.getD (atR r.size (o + i)) 0 ≤ 255) : bytD (pkR r o n) i = r.cs.getD (atR r.size (o + i)) 0 := by
  unfold pkR
  rw [if_pos h]
  unfold bytD
  show (((peekL r.size o r.cs n.toNat).toArray.toList.getD i 0).toNat : Int) = _
  rw [List.toList_toArray, List.getD_eq_getElem?_getD, peekL_at _ _ _ _ i (by omega), Option.getD_some]
  generalize r.cs.getD (atR r.size (o + i)) 0 = z at *
  obtain ⟨m, rfl⟩ := Int.eq_ofNat_of_zero_le hv.1
  simp
  omega
theorem atR_low {sz n : Int} (h0 : 0 ≤ n) (h1 : n < sz) : atR sz n = n.toNat := by
  unfold atR
  rw [Int.emod_eq_of_lt h0 h1]
/-- What is not dropped stays. -/
theorem zerR_keep {sz b : Int} (cs : List Int) (hb : 0 ≤ b) (k : Nat) (hk : b + k ≤ sz) (n : Int) (h0 : b + k ≤ n) (h1 : n < sz) : (zerR sz b cs k).getD (atR sz n) 0 = cs.getD (atR sz n) 0 := by
  induction k with
  | zero => rfl
  | succ k ih =>
    show ((zerR sz b cs k).set (atR sz (b + k)) 0).getD (atR sz n) 0 = _
    rw [← ih (by omega) (by omega)]
    have hne : atR sz (b + k) ≠ atR sz n := by
      rw [atR_low (by omega) (by omega), atR_low (by omega) h1]
      omega
    simp [List.getD_eq_getElem?_getD, List.getElem?_set_ne hne]
/-- A piece of the text W. -/
def ofW (W : ByteArray) (p : Pc) : Prop := 0 ≤ p.off ∧ p.off + (p.data.size : Int) ≤ W.size ∧ (p.fin = true → p.off + (p.data.size : Int) = W.size) ∧ (p.data.size ≠ 0 ∨ p.fin = true) ∧ ∀ i, i < p.data.size → bytD p.data i = bytD W (p.off + i).toNat
def inPc (p : Pc) (n : Int) : Prop := p.off ≤ n ∧ n < p.off + p.data.size
instance (p : Pc) (n : Int) : Decidable (inPc p n) := by unfold inPc; infer_instance
def sepP (p q : Pc) : Prop := (∀ n, ¬ (inPc p n ∧ inPc q n)) ∧ ¬ (p.fin = true ∧ q.fin = true)
/-- The sender s, the receiver g and the pieces ps that are on their way, of the text W. -/
structure DrI (W : ByteArray) (s : Sn) (g : Rc) (ps : List Pc) : Prop where
  w16 : W.size ≤ 16
  doc : docSn s
  size : s.rn.size = 16
  en : s.rn.en = W.size
  fin : s.fin = W.size
  low : s.st ≤ 3
  ring : ∀ n : Int, s.rn.base ≤ n → n < W.size → s.rn.cs.getD (atR 16 n) 0 = bytD W n.toNat
  ofw : ∀ p ∈ ps, ofW W p
  fl : ∀ n, hasR s.fl n ↔ ∃ p ∈ ps, inPc p n
  sep : ps.Pairwise sepP
  one : (∃ p ∈ ps, p.fin = true) ↔ s.fi = 2
  rok : okRc g
  rst : g.st ≤ 2
  nxt : g.buf.next = 0
  rhi : g.hi ≤ W.size
  rfin : g.fin = -1 ∨ g.fin = W.size
  got : ∀ n, hasR s.ac n → 0 ≤ byteB g.buf.chs n
  is : ∀ n, 0 ≤ byteB g.buf.chs n → 0 ≤ n ∧ n < W.size ∧ byteB g.buf.chs n = bytD W n.toNat
  end3 : s.fi = 3 → g.fin = W.size
theorem DrI.norm {W : ByteArray} {s : Sn} {g : Rc} {ps : List Pc} (h : DrI W s g ps) : fitS s ∧ wholeS s ∧ endS s := h.doc.low h.low
theorem DrI.fi1 {W : ByteArray} {s : Sn} {g : Rc} {ps : List Pc} (h : DrI W s g ps) : 1 ≤ s.fi := by
  obtain ⟨hf, _, he⟩ := h.norm
  have h0 := hf.2.2.2.2.2.2.1
  have h1 := he.2.2.2.2.1
  have h2 := h.fin
  by_cases h3 : s.fi = 0
  · have := h1.1 h3; omega
  · omega
/-- When all is done, nothing is on its way. -/
theorem DrI.done {W : ByteArray} {s : Sn} {g : Rc} {ps : List Pc} (h : DrI W s g ps) (hs : s.st = 3) : ps = [] ∧ s.fi = 3 ∧ ∀ n : Int, 0 ≤ n → n < W.size → hasR s.ac n := by
  obtain ⟨hf, hw, he⟩ := h.norm
  have e1 := he.2.2.2.2.2.2
  rw [hs] at e1
  have e2 : s.fi = 3 ∧ s.rn.base = s.rn.en := by
    unfold folS at e1
    by_cases h1 : s.fi = 3 ∧ s.rn.base = s.rn.en
    · exact h1
    · rw [if_neg h1] at e1
      split at e1
      · omega
      · split at e1 <;> omega
  have hac : ∀ n : Int, 0 ≤ n → n < W.size → hasR s.ac n := fun n a b => gapR_full s.ac (-1) 0 n hf.2.2.2.1 a (by rw [he.1, e2.2, h.en]; exact b)
  refine ⟨?_, e2.1, hac⟩
  cases hp : ps with
  | nil => rfl
  | cons p L =>
    have hm : p ∈ ps := by rw [hp]; exact List.mem_cons_self ..
    have ho := h.ofw p hm
    rcases ho.2.2.2.1 with h1 | h1
    · have hfl := (h.fl p.off).2 ⟨p, hm, Int.le_refl _, by omega⟩
      exact absurd ⟨hfl, hac p.off ho.1 (by have := ho.2.1; omega)⟩ (hw.2.2.2 p.off)
    · have := h.one.1 ⟨p, hm, h1⟩
      omega
theorem DrI.st2 {W : ByteArray} {s : Sn} {g : Rc} {ps : List Pc} (h : DrI W s g ps) (h0 : ps ≠ []) : s.st ≤ 2 := by
  by_cases hs : s.st = 3
  · exact absurd (h.done hs).1 h0
  · have := h.low; omega
theorem ofW.inP {W : ByteArray} {p : Pc} (h : ofW W p) {s : Sn} (he : s.rn.en = W.size) (hf : s.fin = W.size) : inP s p :=
  ⟨h.1, by have := h.2.1; omega, by have := h.2.1; omega, fun e => ⟨by omega, by have := h.2.2.1 e; omega⟩⟩
/-- A piece is sent. -/
theorem DrI.send {W : ByteArray} {s : Sn} {g : Rc} {ps : List Pc} (h : DrI W s g ps) {m l : Int} {p : Pc} (hp : nxS true s m l = some p) : DrI W (sdS true s p) g (ps ++ [p]) ∧ canS true s p := by
  obtain ⟨n1, n2, n3, n4, n5, n6⟩ := nx_ok h.doc hp
  obtain ⟨hf, hw, he⟩ := h.norm
  have hin := n6.1.2.2.1
  have hd := sdS_doc p h.doc
  have hpw : ofW W p := by
    refine ⟨hin.1, by have := hin.2.2.1; have := h.en; omega, fun e => by have := n5 e; have := h.fin; omega, n6.1.2.2.2.1, fun i hi => ?_⟩
    have hb := n1.2.1
    have hle := n1.2.2.2.2
    have hen := h.en
    have hw16 := h.w16
    have h16 := h.size
    have hr := h.ring (p.off + i) (by omega) (by omega)
    rw [← n2, pkR_byte n1 i (by omega), h16, hr]
    rw [h16, hr]
    exact bytD_in _ _
  have hpe : p.data.size ≠ 0 → ∀ n, inPc p n → hasR s.pe n := fun h0 n hn => by
    have h1 := n6.2 h0
    have h2 : hasR [pcR p] n := (hasR_cons _ _ _).2 (.inl hn)
    rw [← h1, comR_has] at h2
    exact h2.1
  have hfin : p.fin = true → s.fi = 1 := n6.1.2.2.2.2
  have hsep : ∀ q ∈ ps, sepP q p := fun q hq => by
    refine ⟨fun n hn => ?_, fun e => ?_⟩
    · have h0 : p.data.size ≠ 0 := fun e => by have := hn.2; unfold inPc at this; omega
      exact hw.2.1 n ⟨hpe h0 n hn.2, (h.fl n).2 ⟨q, hq, hn.1⟩⟩
    · have h1 := h.one.1 ⟨q, hq, e.1⟩
      have h2 := hfin e.2
      omega
  have hS : sdS true s p = fixS { s with pe := if p.data.size ≠ 0 then remL s.pe (pcR p) else s.pe, fl := if p.data.size ≠ 0 then addL s.fl (pcR p) else s.fl, sent := if p.data.size ≠ 0 then max s.sent (pcR p).2 else s.sent, fi := if p.fin = true then 2 else s.fi } := by unfold sdS; rw [if_pos n6]
  have hfl : ∀ n, hasR (sdS true s p).fl n ↔ hasR s.fl n ∨ inPc p n := fun n => by
    rw [hS]
    show hasR (if p.data.size ≠ 0 then addL s.fl (pcR p) else s.fl) n ↔ _
    by_cases h0 : p.data.size = 0
    · rw [if_neg (fun e => e h0)]
      exact ⟨.inl, fun e => e.resolve_right (fun e => by unfold inPc at e; omega)⟩
    · rw [if_pos h0]
      exact (addL_ok hf.2.2.1 ⟨by show 0 ≤ p.off; exact hin.1, by show p.off < p.off + (p.data.size : Int); omega, by show p.off + (p.data.size : Int) ≤ _; have := hf.1.2.2.2.2.2.1; have := hin.2.2.1; omega⟩).2 n
  have hfi : (sdS true s p).fi = if p.fin = true then 2 else s.fi := by rw [hS]; rfl
  have hrn : (sdS true s p).rn = s.rn := by rw [hS]; rfl
  have hac : (sdS true s p).ac = s.ac := by rw [hS]; rfl
  have hfn : (sdS true s p).fin = s.fin := by rw [hS]; rfl
  refine ⟨⟨h.w16, hd, by rw [hrn]; exact h.size, by rw [hrn]; exact h.en, by rw [hfn]; exact h.fin, by rw [hS]; exact (folS_in _).2, by rw [hrn]; exact h.ring, ?_, ?_, ?_, ?_, h.rok, h.rst, h.nxt, h.rhi, h.rfin, by rw [hac]; exact h.got, h.is, ?_⟩, n6⟩
  · intro q hq
    rcases List.mem_append.1 hq with h1 | h1
    · exact h.ofw q h1
    · rw [List.mem_singleton.1 h1]; exact hpw
  · intro n
    rw [hfl, h.fl]
    constructor
    · rintro (⟨q, hq, hn⟩ | hn)
      · exact ⟨q, List.mem_append.2 (.inl hq), hn⟩
      · exact ⟨p, List.mem_append.2 (.inr (List.mem_singleton.2 rfl)), hn⟩
    · rintro ⟨q, hq, hn⟩
      rcases List.mem_append.1 hq with h1 | h1
      · exact .inl ⟨q, h1, hn⟩
      · rw [List.mem_singleton.1 h1] at hn; exact .inr hn
  · exact List.pairwise_append.2 ⟨h.sep, List.pairwise_singleton _ _, fun q hq x hx => by rw [List.mem_singleton.1 hx]; exact hsep q hq⟩
  · rw [hfi]
    constructor
    · rintro ⟨q, hq, e⟩
      rcases List.mem_append.1 hq with h1 | h1
      · have h2 := h.one.1 ⟨q, h1, e⟩
        split
        · rfl
        · exact h2
      · rw [List.mem_singleton.1 h1] at e
        rw [if_pos e]
    · intro e
      by_cases hpf : p.fin = true
      · exact ⟨p, List.mem_append.2 (.inr (List.mem_singleton.2 rfl)), hpf⟩
      · rw [if_neg hpf] at e
        obtain ⟨q, hq, e2⟩ := h.one.2 e
        exact ⟨q, List.mem_append.2 (.inl hq), e2⟩
  · intro e
    rw [hfi] at e
    split at e
    · omega
    · exact h.end3 e
/-- One of the pieces is taken out. -/
theorem sep_mid {L R : List Pc} {q : Pc} (h : (L ++ q :: R).Pairwise sepP) : (L ++ R).Pairwise sepP ∧ ∀ p ∈ L ++ R, sepP p q ∨ sepP q p := by
  obtain ⟨h1, h2, h3⟩ := List.pairwise_append.1 h
  obtain ⟨h4, h5⟩ := List.pairwise_cons.1 h2
  refine ⟨List.pairwise_append.2 ⟨h1, h5, fun a ha b hb => h3 a ha b (List.mem_cons_of_mem _ hb)⟩, fun p hp => ?_⟩
  rcases List.mem_append.1 hp with h6 | h6
  · exact .inl (h3 p h6 q (List.mem_cons_self ..))
  · exact .inr (h4 p h6)
theorem DrI.less {W : ByteArray} {s : Sn} {g : Rc} {L R : List Pc} {q : Pc} (h : DrI W s g (L ++ q :: R)) :
    canA true s q ∧ (okR (-1) (comS s q) ∧ ∀ n, hasR (comS s q) n ↔ inPc q n) ∧ (∀ n, hasR s.fl n ∧ ¬ inPc q n ↔ ∃ p ∈ L ++ R, inPc p n) ∧ (∀ p ∈ L ++ R, p.fin = true → q.fin = true → False) := by
  obtain ⟨hf, hw, he⟩ := h.norm
  have hm : q ∈ L ++ q :: R := List.mem_append.2 (.inr (List.mem_cons_self ..))
  have hq := h.ofw q hm
  have hin := hq.inP h.en h.fin
  have hst := h.st2 (by simp)
  obtain ⟨s1, s2⟩ := sep_mid h.sep
  have hcm := comS_ok hf.2.2.1 hin hf.1.2.2.2.2.2.1
  refine ⟨⟨rfl, hst, hin⟩, ⟨hcm.1, fun n => ⟨fun hn => ((hcm.2 n).1 hn).2, fun hn => (hcm.2 n).2 ⟨(h.fl n).2 ⟨q, hm, hn⟩, hn⟩⟩⟩, fun n => ?_, fun p hp e1 e2 => ?_⟩
  · rw [h.fl]
    constructor
    · rintro ⟨⟨p, hp, hn⟩, hno⟩
      rcases List.mem_append.1 hp with h1 | h1
      · exact ⟨p, List.mem_append.2 (.inl h1), hn⟩
      · rcases List.mem_cons.1 h1 with h2 | h2
        · rw [h2] at hn; exact absurd hn hno
        · exact ⟨p, List.mem_append.2 (.inr h2), hn⟩
    · rintro ⟨p, hp, hn⟩
      refine ⟨⟨p, ?_, hn⟩, fun hno => ?_⟩
      · rcases List.mem_append.1 hp with h1 | h1
        · exact List.mem_append.2 (.inl h1)
        · exact List.mem_append.2 (.inr (List.mem_cons_of_mem _ h1))
      · rcases s2 p hp with h1 | h1
        · exact h1.1 n ⟨hn, hno⟩
        · exact h1.1 n ⟨hno, hn⟩
  · rcases s2 p hp with h1 | h1
    · exact h1.2 ⟨e1, e2⟩
    · exact h1.2 ⟨e2, e1⟩
theorem one_less {W : ByteArray} {s : Sn} {g : Rc} {L R : List Pc} {q : Pc} (h : DrI W s g (L ++ q :: R)) (k : Int) (hk : k ≠ 2) : (∃ p ∈ L ++ R, p.fin = true) ↔ (if q.fin = true ∧ s.fi = 2 then k else s.fi) = 2 := by
  obtain ⟨_, _, _, h4⟩ := h.less
  have hm : q ∈ L ++ q :: R := List.mem_append.2 (.inr (List.mem_cons_self ..))
  by_cases e : q.fin = true
  · have h2 := h.one.1 ⟨q, hm, e⟩
    rw [if_pos ⟨e, h2⟩]
    exact ⟨fun ⟨p, hp, e1⟩ => absurd e (fun e2 => h4 p hp e1 e2), fun h3 => absurd h3 hk⟩
  · rw [if_neg (fun h => e h.1), ← h.one]
    constructor
    · rintro ⟨p, hp, e1⟩
      rcases List.mem_append.1 hp with h1 | h1
      · exact ⟨p, List.mem_append.2 (.inl h1), e1⟩
      · exact ⟨p, List.mem_append.2 (.inr (List.mem_cons_of_mem _ h1)), e1⟩
    · rintro ⟨p, hp, e1⟩
      rcases List.mem_append.1 hp with h1 | h1
      · exact ⟨p, List.mem_append.2 (.inl h1), e1⟩
      · rcases List.mem_cons.1 h1 with h2 | h2
        · rw [h2] at e1; exact absurd e1 e
        · exact ⟨p, List.mem_append.2 (.inr h2), e1⟩
theorem ofw_less {W : ByteArray} {s : Sn} {g : Rc} {L R : List Pc} {q : Pc} (h : DrI W s g (L ++ q :: R)) : ∀ p ∈ L ++ R, ofW W p := fun p hp => h.ofw p (by
  rcases List.mem_append.1 hp with h1 | h1
  · exact List.mem_append.2 (.inl h1)
  · exact List.mem_append.2 (.inr (List.mem_cons_of_mem _ h1)))
/-- A piece is lost. -/
theorem DrI.lose {W : ByteArray} {s : Sn} {g : Rc} {L R : List Pc} {q : Pc} (h : DrI W s g (L ++ q :: R)) : DrI W (loS true s q) g (L ++ R) := by
  obtain ⟨hc, hcm, h3, h4⟩ := h.less
  obtain ⟨hf, _, _⟩ := h.norm
  have hd := loS_doc q h.doc
  have hrm := remLs_ok (comS s q) s.fl (-1) (Int.le_refl _) hf.2.2.1 hcm.1
  have hS : loS true s q = fixS { s with fl := remLs s.fl (comS s q), pe := addLs s.pe (comS s q), fi := if q.fin = true ∧ s.fi = 2 then 1 else s.fi } := by unfold loS; rw [if_pos hc]
  have hfi : (loS true s q).fi = if q.fin = true ∧ s.fi = 2 then 1 else s.fi := by rw [hS]; rfl
  have hrn : (loS true s q).rn = s.rn := by rw [hS]; rfl
  have hac : (loS true s q).ac = s.ac := by rw [hS]; rfl
  have hfn : (loS true s q).fin = s.fin := by rw [hS]; rfl
  have hfl : (loS true s q).fl = remLs s.fl (comS s q) := by rw [hS]; rfl
  refine ⟨h.w16, hd, by rw [hrn]; exact h.size, by rw [hrn]; exact h.en, by rw [hfn]; exact h.fin, by rw [hS]; exact (folS_in _).2, by rw [hrn]; exact h.ring, ofw_less h, fun n => ?_, (sep_mid h.sep).1, by rw [hfi]; exact one_less h 1 (by decide), h.rok, h.rst, h.nxt, h.rhi, h.rfin, by rw [hac]; exact h.got, h.is, fun e => ?_⟩
  · rw [hfl, hrm.2, hcm.2, h3]
  · rw [hfi] at e
    split at e
    · omega
    · exact h.end3 e
/-- What is received. -/
theorem DrI.recv {W : ByteArray} {s : Sn} {g : Rc} {L R : List Pc} {q : Pc} (h : DrI W s g (L ++ q :: R)) :
    (rcvRc g q.off q.data q.fin).2 = 0 ∧ okRc (rcvRc g q.off q.data q.fin).1 ∧ (rcvRc g q.off q.data q.fin).1.st ≤ 2 ∧ (rcvRc g q.off q.data q.fin).1.buf.next = 0 ∧ (rcvRc g q.off q.data q.fin).1.hi ≤ W.size ∧ ((rcvRc g q.off q.data q.fin).1.fin = -1 ∨ (rcvRc g q.off q.data q.fin).1.fin = W.size) ∧
    (∀ n, hasR s.ac n ∨ inPc q n → 0 ≤ byteB (rcvRc g q.off q.data q.fin).1.buf.chs n) ∧ (∀ n, 0 ≤ byteB (rcvRc g q.off q.data q.fin).1.buf.chs n → 0 ≤ n ∧ n < W.size ∧ byteB (rcvRc g q.off q.data q.fin).1.buf.chs n = bytD W n.toNat) ∧ (s.fi = 3 ∨ q.fin = true → (rcvRc g q.off q.data q.fin).1.fin = W.size) := by
  have hm : q ∈ L ++ q :: R := List.mem_append.2 (.inr (List.mem_cons_self ..))
  obtain ⟨o1, o2, o3, o4, o5⟩ := h.ofw q hm
  have hw16 := h.w16
  have hhi := h.rhi
  have hfn := h.rfin
  have hok := okRc_rcv q.off q.data q.fin h.rok
  have e1 : ¬ ¬ (okRc g ∧ 0 ≤ q.off ∧ q.off ≤ 4611686018427387903 - q.data.size) := fun hn => hn ⟨h.rok, o1, by omega⟩
  have e2 : ¬ badRc g (q.off + q.data.size) q.fin := by
    rintro (⟨b1, b2 | b2⟩ | b2)
    · omega
    · have := o3 b2.1; omega
    · have := o3 b2.1; omega
  unfold rcvRc at hok ⊢
  rw [if_neg e1, if_neg e2] at hok ⊢
  by_cases hst : 1 < g.st
  · rw [if_pos hst] at hok ⊢
    have h2 : g.st = 2 := by have := h.rst; omega
    have hfull : fullRc g := by
      rcases h.rok.2 with a | a | a | a | a
      · omega
      · omega
      · exact a.2.1
      · omega
      · omega
    have hgf : g.fin = W.size := hfn.resolve_left hfull.1
    have hall : ∀ n : Int, 0 ≤ n → n < W.size → 0 ≤ byteB g.buf.chs n := fun n a b => by
      have hr : rdyB g.buf = W.size := by have := hfull.2; have := h.nxt; omega
      obtain ⟨_, c, l, hl, hn, hs⟩ := rdyB_pos (b := g.buf) (by omega)
      rw [hl]
      unfold byteB
      rw [if_pos (show inC c n from ⟨by have := h.nxt; omega, by have := h.nxt; omega, by have := h.nxt; omega⟩)]
      exact (bytD_in _ _).1
    obtain ⟨hf, hw, he⟩ := h.norm
    refine ⟨rfl, hok, by show g.st ≤ 2; omega, h.nxt, hhi, hfn, fun n hn => ?_, h.is, fun _ => hgf⟩
    rcases hn with hn | hn
    · have := (hw.1 n).1 (.inr (.inr hn))
      exact hall n this.1 (by have := h.en; omega)
    · unfold inPc at hn
      exact hall n (by omega) (by omega)
  · rw [if_neg hst] at hok ⊢
    have hx : (datRc g q.off q.data q.fin).buf = insB g.buf q.off q.data := fillRc_buf _
    have hbok : okB g.buf := h.rok.1.1
    have hby : ∀ n, byteB (datRc g q.off q.data q.fin).buf.chs n = if 0 ≤ byteB g.buf.chs n then byteB g.buf.chs n else if inPc q n then bytD q.data (n - q.off).toNat else -1 := fun n => by
      rw [hx]
      by_cases h0 : q.data.size = 0
      · have e3 : ¬ canI g.buf q.off q.data := fun hc => hc.2.1 h0
        unfold insB
        rw [if_neg e3]
        rcases byteB_cases g.buf.chs n with a | a
        · rw [if_neg (by omega), if_neg (by intro hq; unfold inPc at hq; omega)]; exact a
        · rw [if_pos a.1]
      · have hc : canI g.buf q.off q.data := ⟨hbok, h0, o1, by omega, by have := h.nxt; omega⟩
        rw [insB_byte g.buf q.off q.data hc n]
        by_cases h1 : 0 ≤ byteB g.buf.chs n
        · rw [if_pos h1, if_pos h1]
        · rw [if_neg h1, if_neg h1]
          have hmx : max q.off g.buf.next = q.off := by have := h.nxt; omega
          rw [hmx]
          rfl
    have hgs : ∀ x : Rc, (fillRc x).fin = x.fin ∧ (fillRc x).hi = x.hi ∧ ((fillRc x).st = 2 ∨ (fillRc x).st = x.st) := fun x => by
      unfold fillRc
      split
      · exact ⟨rfl, rfl, .inl rfl⟩
      · exact ⟨rfl, rfl, .inr rfl⟩
    obtain ⟨g1, g2, g3⟩ := hgs ⟨if q.fin = true then 1 else g.st, insB g.buf q.off q.data, if q.fin = true then q.off + q.data.size else g.fin, max g.hi (q.off + q.data.size), g.code⟩
    have hfin : (datRc g q.off q.data q.fin).fin = if q.fin = true then q.off + q.data.size else g.fin := g1
    have hhi2 : (datRc g q.off q.data q.fin).hi = max g.hi (q.off + q.data.size) := g2
    refine ⟨rfl, hok, ?_, ?_, ?_, ?_, ?_, ?_, ?_⟩
    · show (datRc g q.off q.data q.fin).st ≤ 2
      rcases g3 with a | a
      · have : (datRc g q.off q.data q.fin).st = 2 := a
        omega
      · have a2 : (datRc g q.off q.data q.fin).st = if q.fin = true then 1 else g.st := a
        rw [a2]
        split <;> omega
    · show (datRc g q.off q.data q.fin).buf.next = 0
      rw [hx, insB_next]; exact h.nxt
    · show (datRc g q.off q.data q.fin).hi ≤ _
      rw [hhi2]; omega
    · show (datRc g q.off q.data q.fin).fin = -1 ∨ (datRc g q.off q.data q.fin).fin = _
      rw [hfin]
      split
      · rename_i e; exact .inr (o3 e)
      · exact hfn
    · intro n hn
      show 0 ≤ byteB (datRc g q.off q.data q.fin).buf.chs n
      rw [hby n]
      by_cases h1 : 0 ≤ byteB g.buf.chs n
      · rw [if_pos h1]; exact h1
      · rw [if_neg h1]
        rcases hn with hn | hn
        · exact absurd (h.got n hn) h1
        · rw [if_pos hn]; exact (bytD_in _ _).1
    · intro n
      show 0 ≤ byteB (datRc g q.off q.data q.fin).buf.chs n → _ ∧ _ ∧ byteB (datRc g q.off q.data q.fin).buf.chs n = _
      rw [hby n]
      by_cases h1 : 0 ≤ byteB g.buf.chs n
      · rw [if_pos h1]
        exact fun _ => h.is n h1
      · rw [if_neg h1]
        by_cases h2 : inPc q n
        · rw [if_pos h2]
          intro _
          have h3 := h2
          unfold inPc at h3
          refine ⟨by omega, by omega, ?_⟩
          rw [o5 (n - q.off).toNat (by omega)]
          congr 1
          omega
        · rw [if_neg h2]; intro h3; omega
    · intro e
      show (datRc g q.off q.data q.fin).fin = _
      rw [hfin]
      split
      · rename_i e2; exact o3 e2
      · rename_i e2
        rcases e with e | e
        · exact h.end3 e
        · exact absurd e e2
/-- A piece is received and acknowledged. -/
theorem DrI.ack {W : ByteArray} {s : Sn} {g : Rc} {L R : List Pc} {q : Pc} (h : DrI W s g (L ++ q :: R)) : DrI W (akS true s q) (rcvRc g q.off q.data q.fin).1 (L ++ R) := by
  obtain ⟨_, k1, k2, k3, k4, k5, k6, k7, k8⟩ := h.recv
  obtain ⟨hc, hcm, h3, h4⟩ := h.less
  obtain ⟨hf, hw, he⟩ := h.norm
  have hd := akS_doc q h.doc
  have hrm := remLs_ok (comS s q) s.fl (-1) (Int.le_refl _) hf.2.2.1 hcm.1
  have had := addLs_ok (comS s q) s.ac (-1) (Int.le_refl _) hf.2.2.2.1 hcm.1
  have hS : akS true s q = fixS { s with fl := remLs s.fl (comS s q), ac := addLs s.ac (comS s q), fi := if q.fin = true ∧ s.fi = 2 then 3 else s.fi, rn := drR s.rn (if okR (-1) (addLs s.ac (comS s q)) then gapR (addLs s.ac (comS s q)) 0 else -1) } := by unfold akS; rw [if_pos hc]
  rw [if_pos had.1] at hS
  have hfi : (akS true s q).fi = if q.fin = true ∧ s.fi = 2 then 3 else s.fi := by rw [hS]; rfl
  have hrn : (akS true s q).rn = drR s.rn (gapR (addLs s.ac (comS s q)) 0) := by rw [hS]; rfl
  have hac : (akS true s q).ac = addLs s.ac (comS s q) := by rw [hS]; rfl
  have hfn : (akS true s q).fin = s.fin := by rw [hS]; rfl
  have hfl : (akS true s q).fl = remLs s.fl (comS s q) := by rw [hS]; rfl
  have hdr : (drR s.rn (gapR (addLs s.ac (comS s q)) 0)).size = s.rn.size ∧ (drR s.rn (gapR (addLs s.ac (comS s q)) 0)).en = s.rn.en := by
    unfold drR
    split <;> exact ⟨rfl, rfl⟩
  refine ⟨h.w16, hd, by rw [hrn, hdr.1]; exact h.size, by rw [hrn, hdr.2]; exact h.en, by rw [hfn]; exact h.fin, by rw [hS]; exact (folS_in _).2, ?_, ofw_less h, fun n => ?_, (sep_mid h.sep).1, by rw [hfi]; exact one_less h 3 (by decide), k1, k2, k3, k4, k5, fun n hn => ?_, k7, fun e => ?_⟩
  · intro n
    rw [hrn]
    unfold drR
    split
    · rename_i hcd
      intro a b
      have a' : gapR (addLs s.ac (comS s q)) 0 ≤ n := a
      show (zerR s.rn.size s.rn.base s.rn.cs _).getD (atR 16 n) 0 = _
      have h5 := hcd.2
      have h6 := hf.1.2.2.1
      have h16 := h.size
      have hw16 := h.w16
      have hen := h.en
      rw [h16, zerR_keep s.rn.cs h6 _ (by omega) n (by omega) (by omega)]
      exact h.ring n (by omega) b
    · exact h.ring n
  · rw [hfl, hrm.2, hcm.2, h3]
  · rw [hac] at hn
    rcases (had.2 n).1 hn with h5 | h5
    · exact k6 n (.inl h5)
    · exact k6 n (.inr ((hcm.2 n).1 h5))
  · rw [hfi] at e
    split at e
    · rename_i e2; exact k8 (.inr e2.1)
    · exact k8 (.inl e)
/-- At the end the text has been received. -/
theorem DrI.read {W : ByteArray} {s : Sn} {g : Rc} {ps : List Pc} (h : DrI W s g ps) (hs : s.st = 3) : ps = [] ∧ g.st = 2 ∧ (readRc g 100).1 = W := by
  obtain ⟨d1, d2, d3⟩ := h.done hs
  have hgf := h.end3 d2
  have hbok : okB g.buf := h.rok.1.1
  have hnx := h.nxt
  have hend : endB g.buf ≤ W.size := by have := h.rok.1.2.2.1; have := h.rhi; omega
  have hall : ∀ n : Int, 0 ≤ n → n < W.size → 0 ≤ byteB g.buf.chs n := fun n a b => h.got n (d3 n a b)
  have hrd : rdyB g.buf = W.size := by
    have hle := rdyB_le hbok
    by_cases h0 : W.size = 0
    · omega
    · have h1 := (byteB_has g.buf.chs (g.buf.next - 1) (by omega) hbok.1 0).1 (hall 0 (Int.le_refl _) (by omega))
      cases hch : g.buf.chs with
      | nil => rw [hch] at h1; exact absurd h1 (hasR_nil 0)
      | cons c l =>
        have hk := hbok.1
        rw [hch] at hk h1
        obtain ⟨k1, k2, k3, k4⟩ := hk
        have k1' : g.buf.next - 1 < c.off := k1
        rcases (hasR_cons _ _ _).1 h1 with h2 | h2
        · have c0 : c.off = g.buf.next := by have : c.off ≤ 0 := h2.1; omega
          have hr : rdyB g.buf = c.data.size := by unfold rdyB; rw [if_pos hbok, hch]; exact if_pos c0
          by_cases h3 : c.data.size < W.size
          · exfalso
            have h4 := (byteB_has g.buf.chs (g.buf.next - 1) (by omega) hbok.1 (c.data.size : Int)).1 (hall c.data.size (by omega) (by omega))
            rw [hch] at h4
            rcases (hasR_cons _ _ _).1 h4 with h5 | h5
            · have : (c.data.size : Int) < c.off + c.data.size := h5.2; omega
            · have := okR.above k4 _ h5
              have e : (ckR c).2 = c.off + c.data.size := rfl
              omega
          · omega
        · have := okR.above k4 _ h2
          have e : (ckR c).2 = c.off + c.data.size := rfl
          omega
  have hfull : fullRc g := ⟨by omega, by omega⟩
  have hst : g.st = 2 := by
    have := h.rst
    rcases h.rok.2 with a | a | a | a | a
    · omega
    · exact absurd hfull a.2.2.1
    · exact a.1
    · omega
    · omega
  refine ⟨d1, hst, ?_⟩
  unfold readRc
  rw [if_neg (fun hn => hn h.rok), if_neg (by omega)]
  show headT g.buf (cntT g.buf 100) = W
  have hct : cntT g.buf 100 = W.size := by have := h.w16; unfold cntT; omega
  refine bytes_eq (by rw [headT_size, hct]) (fun i hi => ?_)
  rw [headT_byte g.buf 100 i (by omega), hnx]
  have := h.is (0 + (i : Int)) (hall _ (by omega) (by omega))
  rw [this.2.2]
  congr 1
  omega
/-- The beginning: the text is written, the end is fixed, nothing has come. -/
theorem DrI.start {W : ByteArray} (hw : W.size ≤ 16) : wrNS true (nwS 16) W = W.size ∧ DrI W (clS true (wrS true (nwS 16) W)) nuRc [] := by
  have hp : powR 16 := by unfold powR; omega
  have hn : nwS 16 = ⟨0, nwR 16, [], [], [], -1, 0, 0, 0⟩ := if_pos hp
  have hr : nwR 16 = ⟨16, 0, 0, List.replicate (16 : Int).toNat 0⟩ := if_pos hp
  have hok := nwR_ok hp
  have hd0 : docSn (nwS 16) := nwS_doc hp
  have hd1 := wrS_doc W hd0
  have hd2 := clS_doc hd1
  have hrm : roomR (nwR 16) = 16 := by unfold roomR; rw [if_pos hok, hr]; decide
  have hct : cntW (nwR 16) W = W.size := by have := cntW_in (nwR 16) W; rw [hrm] at this; omega
  have hcw : canW true (nwS 16) := ⟨rfl, by rw [hn]; show (0 : Int) ≤ 1; decide, by rw [hn]⟩
  have hwr : wrS true (nwS 16) W = { nwS 16 with rn := wrR (nwS 16).rn W, pe := if 0 < cntW (nwS 16).rn W then addL (nwS 16).pe ((nwS 16).rn.en, (nwS 16).rn.en + cntW (nwS 16).rn W) else (nwS 16).pe } := by unfold wrS; rw [if_pos hcw]
  have hcl : canW true (wrS true (nwS 16) W) := ⟨rfl, by rw [hwr, hn]; show (0 : Int) ≤ 1; decide, by rw [hwr, hn]⟩
  have hS : clS true (wrS true (nwS 16) W) = { wrS true (nwS 16) W with fin := (wrS true (nwS 16) W).rn.en, fi := 1 } := by unfold clS; rw [if_pos hcl]
  have hrn : (wrS true (nwS 16) W).rn = wrR (nwR 16) W := by rw [hwr, hn]
  have hen : (wrR (nwR 16) W).en = W.size := by unfold wrR; rw [hct, hr]; show (0 : Int) + _ = _; omega
  have hbs : (wrR (nwR 16) W).base = 0 := by unfold wrR; rw [hr]
  have hcs : ∀ i : Nat, i < W.size → (wrR (nwR 16) W).cs.getD (atR 16 ((0 : Int) + i)) 0 = byt8 W i := fun i hi => by
    unfold wrR
    rw [hct, hr]
    exact putR_seen W (List.replicate (16 : Int).toNat 0) (by decide) (by decide) W.size i hi (by show ((W.size : Nat) : Int) ≤ 16; omega)
  refine ⟨by unfold wrNS; rw [if_pos hcw, hn]; exact hct, ⟨hw, hd2, ?_, ?_, ?_, ?_, ?_, fun p h => (by cases h), ?_, List.Pairwise.nil, ?_, ?_, by decide, rfl, by show (0 : Int) ≤ _; omega, .inl rfl, ?_, fun n h => absurd h (by show ¬ (0 : Int) ≤ -1; decide), ?_⟩⟩
  · rw [hS]; show (wrS true (nwS 16) W).rn.size = 16; rw [hrn]; unfold wrR; rw [hr]
  · rw [hS]; show (wrS true (nwS 16) W).rn.en = _; rw [hrn]; exact hen
  · rw [hS]; show (wrS true (nwS 16) W).rn.en = _; rw [hrn]; exact hen
  · rw [hS, hwr, hn]; show (0 : Int) ≤ 3; decide
  · intro n a b
    rw [hS] at a ⊢
    have a' : (wrS true (nwS 16) W).rn.base ≤ n := a
    show (wrS true (nwS 16) W).rn.cs.getD (atR 16 n) 0 = _
    rw [hrn] at a' ⊢
    rw [hbs] at a'
    have := hcs n.toNat (by omega)
    rw [show (0 : Int) + (n.toNat : Int) = n by omega] at this
    rw [this, byt_two]
  · intro n
    have e : (clS true (wrS true (nwS 16) W)).fl = [] := by rw [hS, hwr, hn]
    rw [e]
    exact ⟨fun h => absurd h (hasR_nil n), fun ⟨p, hp, _⟩ => (by cases hp)⟩
  · have e : (clS true (wrS true (nwS 16) W)).fi = 1 := by rw [hS]
    rw [e]
    exact ⟨fun ⟨p, hp, _⟩ => (by cases hp), fun h => absurd h (by decide)⟩
  · decide
  · intro n h
    have e : (clS true (wrS true (nwS 16) W)).ac = [] := by rw [hS, hwr, hn]
    rw [e] at h
    exact absurd h (hasR_nil n)
  · intro h
    have e : (clS true (wrS true (nwS 16) W)).fi = 1 := by rw [hS]
    rw [e] at h
    omega
end Go.Proofs.Ytjohbfdifdjldac.Num

namespace Go.Proofs.Ytjohbfdifdjldac.Num

/-- The place behind the last one, or 0. -/
def lastS : List Rg → Int
  | [] => 0
  | [r] => r.2
  | _ :: r :: l => lastS (r :: l)
theorem lastS_at (l : List Rg) (h : 0 < l.length) : lastS l = (l[l.length - 1]'(by omega)).2 := by
  induction l with
  | nil => exact absurd h (Nat.lt_irrefl 0)
  | cons x l ih =>
    cases l with
    | nil => rfl
    | cons y l =>
      show lastS (y :: l) = _
      rw [ih (Nat.succ_pos _)]
      rfl
theorem lastS_in {l : List Rg} : ∀ {p : Int}, okR p l → (∀ n, hasR l n → n < lastS l) ∧ (l ≠ [] → hasR l (lastS l - 1)) ∧ (l ≠ [] → p < lastS l) := by
  induction l with
  | nil => intro p _; exact ⟨fun n h => absurd h (hasR_nil n), fun h => absurd rfl h, fun h => absurd rfl h⟩
  | cons x l ih =>
    intro p h
    obtain ⟨h1, h2, h3, h4⟩ := h
    cases l with
    | nil =>
      refine ⟨fun n hn => ?_, fun _ => ?_, fun _ => by show p < x.2; omega⟩
      · rcases (hasR_cons x [] n).1 hn with h | h
        · exact h.2
        · exact absurd h (hasR_nil n)
      · exact (hasR_cons x [] _).2 (.inl ⟨by show x.1 ≤ x.2 - 1; omega, by show x.2 - 1 < x.2; omega⟩)
    | cons y l =>
      obtain ⟨i1, i2, i3⟩ := ih h4
      have i4 := i3 (List.cons_ne_nil _ _)
      refine ⟨fun n hn => ?_, fun _ => (hasR_cons _ _ _).2 (.inr (i2 (List.cons_ne_nil _ _))), fun _ => by show p < lastS (y :: l); omega⟩
      show n < lastS (y :: l)
      rcases (hasR_cons x (y :: l) n).1 hn with h | h
      · omega
      · exact i1 n h
theorem lastS_nn {l : List Rg} (h : okR (-1) l) : 0 ≤ lastS l := by
  cases l with
  | nil => exact Int.le_refl _
  | cons x l => have := (lastS_in h).2.2 (List.cons_ne_nil _ _); omega
theorem lastS_top {l : List Rg} {p : Int} (h : okR p l) (hp : l ≠ []) : lastS l ≤ 4611686018427387903 := by
  obtain ⟨x, hx, h1, h2⟩ := (lastS_in h).2.1 hp
  have := (okR.below h x hx).2.2
  omega
theorem lastS_le {l : List Rg} {B : Int} (h : okR (-1) l) (hB : 0 ≤ B) : lastS l ≤ B ↔ ∀ n, hasR l n → n < B := by
  constructor
  · intro h1 n hn
    have := (lastS_in h).1 n hn
    omega
  · intro h1
    cases l with
    | nil => exact hB
    | cons x l =>
      have := h1 _ ((lastS_in h).2.1 (List.cons_ne_nil _ _))
      omega
/-- How the program compares the sets. -/
def apartS (s : Sn) : Prop := comR s.pe s.fl = [] ∧ comR s.pe s.ac = [] ∧ comR s.fl s.ac = []
instance (s : Sn) : Decidable (apartS s) := by unfold apartS; infer_instance
def divS (s : Sn) : Prop := apartS s ∧ max (max (lastS s.pe) (lastS s.fl)) (lastS s.ac) = s.rn.en ∧ cntR s.pe + cntR s.fl + cntR s.ac = s.rn.en
instance (s : Sn) : Decidable (divS s) := by unfold divS; infer_instance
theorem comR_nil {a b : List Rg} (ha : okR (-1) a) (hb : okR (-1) b) : comR a b = [] ↔ ∀ n, ¬ (hasR a n ∧ hasR b n) := by
  constructor
  · intro h n hn
    have := (comR_has a b n).2 hn
    rw [h] at this
    exact hasR_nil n this
  · intro h
    refine okR.uniq (comR_ok b hb a (-1) (Int.le_refl _) ha) (show okR (-1) [] from trivial) (fun n => ?_)
    rw [comR_has]
    exact ⟨fun k => absurd k (h n), fun k => absurd k (hasR_nil n)⟩
/-- A list that has as many numbers as there are is whole. -/
theorem cnt_whole {l : List Rg} {e : Int} (h : okR (-1) l) (he : 0 ≤ e) (hl : ∀ n, hasR l n → n < e) (hc : cntR l = e) : l = whL e := by
  cases l with
  | nil =>
    have : (0 : Int) = e := hc
    subst this
    rfl
  | cons x l =>
    obtain ⟨h1, h2, h3, h4⟩ := h
    rw [cntR_cons] at hc
    have hx : x.2 ≤ e := by
      have := hl (x.2 - 1) ((hasR_cons x l _).2 (.inl ⟨by omega, by omega⟩))
      omega
    have key : ∀ (m : List Rg) (p : Int), okR p m → p ≤ e → (∀ n, hasR m n → n < e) → cntR m ≤ e - p ∧ (m ≠ [] → cntR m < e - p) := by
      intro m
      induction m with
      | nil => intro p _ hp _; exact ⟨by show (0 : Int) ≤ _; omega, fun h => absurd rfl h⟩
      | cons y m ih =>
        intro p hk _ hn
        obtain ⟨k1, k2, k3, k4⟩ := hk
        have hy : y.2 ≤ e := by
          have := hn (y.2 - 1) ((hasR_cons y m _).2 (.inl ⟨by omega, by omega⟩))
          omega
        have := (ih y.2 k4 hy (fun n a => hn n ((hasR_cons y m n).2 (.inr a)))).1
        rw [cntR_cons]
        exact ⟨by omega, fun _ => by omega⟩
    obtain ⟨a1, a2⟩ := key l x.2 h4 hx (fun n a => hl n ((hasR_cons x l n).2 (.inr a)))
    have hnil : l = [] := Decidable.byContradiction fun h => by
      have := a2 h
      omega
    subst hnil
    have hc' : x.2 - x.1 + 0 = e := hc
    unfold whL
    rw [if_neg (by omega)]
    have e1 : x.1 = 0 := by omega
    have e2 : x.2 = e := by omega
    rw [← e2, ← e1]
/-- Where the sets have nothing in common, they have no more numbers than there are. -/
theorem apart_sum {s : Sn} (h2 : okR (-1) s.pe) (h3 : okR (-1) s.fl) (h4 : okR (-1) s.ac) (ha : apartS s) :
    okR (-1) (allS s) ∧ (∀ n, hasR (allS s) n ↔ hasR s.pe n ∨ hasR s.fl n ∨ hasR s.ac n) ∧ cntR (allS s) = cntR s.pe + cntR s.fl + cntR s.ac := by
  obtain ⟨k1, k2⟩ := joinS_has s.fl s.pe (-1) (Int.le_refl _) h2 h3
  obtain ⟨k3, k4⟩ := joinS_has s.ac _ (-1) (Int.le_refl _) k1 h4
  obtain ⟨c1, c2⟩ := joinS_cnt s.fl s.pe (-1) (Int.le_refl _) h2 h3
  obtain ⟨c3, c4⟩ := joinS_cnt s.ac _ (-1) (Int.le_refl _) k1 h4
  obtain ⟨a1, a2, a3⟩ := ha
  have d1 := (comR_nil h2 h3).1 a1
  have d2 := (comR_nil h2 h4).1 a2
  have d3 := (comR_nil h3 h4).1 a3
  have e2 := c2.2 d1
  have e3 := c4.2 (fun n hn => by
    rcases (k2 n).1 hn.1 with h | h
    · exact d2 n ⟨h, hn.2⟩
    · exact d3 n ⟨h, hn.2⟩)
  refine ⟨k3, fun n => ?_, ?_⟩
  · unfold allS
    rw [k4, k2, or_assoc]
  · unfold allS
    omega
theorem apart_low {s : Sn} (h2 : okR (-1) s.pe) (h3 : okR (-1) s.fl) (h4 : okR (-1) s.ac) (ha : apartS s) : cntR s.pe + cntR s.fl + cntR s.ac ≤ 4611686018427387904 := by
  obtain ⟨k1, _, k3⟩ := apart_sum h2 h3 h4 ha
  have := (cntR_le (allS s) (-1) k1 (by decide)).2
  omega
/-- The program's check says what the document says. -/
theorem divS_list {s : Sn} (h : fitS s) : divS s ↔ listS s := by
  have he : 0 ≤ s.rn.en := by have := h.2.2.2.2.1; omega
  obtain ⟨_, h2, h3, h4, _⟩ := id h
  constructor
  · rintro ⟨ha, hm, hc⟩
    obtain ⟨k1, k2, k3⟩ := apart_sum h2 h3 h4 ha
    refine ⟨cnt_whole k1 he (fun n hn => ?_) (k3.trans hc), hc⟩
    rcases (k2 n).1 hn with a | a | a
    · have := (lastS_in h2).1 n a; omega
    · have := (lastS_in h3).1 n a; omega
    · have := (lastS_in h4).1 n a; omega
  · intro hl
    obtain ⟨u, d1, d2, d3⟩ := (listS_whole h).1 hl
    have l1 : lastS s.pe ≤ s.rn.en := (lastS_le h2 he).2 fun n a => ((u n).1 (.inl a)).2
    have l2 : lastS s.fl ≤ s.rn.en := (lastS_le h3 he).2 fun n a => ((u n).1 (.inr (.inl a))).2
    have l3 : lastS s.ac ≤ s.rn.en := (lastS_le h4 he).2 fun n a => ((u n).1 (.inr (.inr a))).2
    refine ⟨⟨(comR_nil h2 h3).2 d1, (comR_nil h2 h4).2 d2, (comR_nil h3 h4).2 d3⟩, ?_, hl.2⟩
    have n1 := lastS_nn h2
    have n2 := lastS_nn h3
    have n3 := lastS_nn h4
    by_cases h0 : s.rn.en = 0
    · omega
    · rcases (u (s.rn.en - 1)).2 ⟨by omega, by omega⟩ with a | a | a
      · have := (lastS_in h2).1 _ a; omega
      · have := (lastS_in h3).1 _ a; omega
      · have := (lastS_in h4).1 _ a; omega
/-- What the program asks of the ring, of the end and of the state. -/
def agrS (s : Sn) : Prop := s.rn.base = gapR s.ac 0 ∧ max (lastS s.fl) (lastS s.ac) ≤ s.sent
instance (s : Sn) : Decidable (agrS s) := by unfold agrS; infer_instance
def afnS (s : Sn) : Prop := s.fin = (if s.fi = 0 then -1 else s.rn.en) ∧ s.st = folS s
instance (s : Sn) : Decidable (afnS s) := by unfold afnS; infer_instance
theorem agr_end {s : Sn} (h : fitS s) : (s.code = 0 ∧ agrS s ∧ afnS s) ↔ endS s := by
  obtain ⟨_, h2, h3, h4, ⟨h5, h6⟩, _⟩ := id h
  unfold agrS afnS endS
  rw [okR_high h3, okR_high h4, ← lastS_le h3 h5, ← lastS_le h4 h5]
  constructor
  · rintro ⟨a, ⟨b, c⟩, d, e⟩
    refine ⟨b.symm, a, by omega, by omega, ?_, ?_, e⟩
    · constructor
      · intro k; rw [if_pos k] at d; exact d
      · intro k
        by_cases k0 : s.fi = 0
        · exact k0
        · rw [if_neg k0] at d; omega
    · intro k
      by_cases k0 : s.fi = 0
      · rw [if_pos k0] at d; exact absurd d k
      · rw [if_neg k0] at d; exact d
  · rintro ⟨a, b, c, d, e, f, g⟩
    refine ⟨b, ⟨a.symm, by omega⟩, ?_, g⟩
    by_cases k0 : s.fi = 0
    · rw [if_pos k0]; exact e.1 k0
    · rw [if_neg k0]; exact f fun k => k0 (e.2 k)
/-- A range holds all of another one. -/
def hldS (l : List Rg) (q : Rg) : Prop := ∃ r ∈ l, r.1 ≤ q.1 ∧ q.2 ≤ r.2
instance (l : List Rg) (q : Rg) : Decidable (hldS l q) := by unfold hldS; infer_instance
theorem hldS_com {l : List Rg} {q : Rg} (h : okR (-1) l) (h0 : 0 ≤ q.1) (h1 : q.1 < q.2) (h2 : q.2 ≤ 4611686018427387903) : hldS l q ↔ comR l [q] = [q] := by
  have ho : okR (-1) [q] := ⟨by omega, h1, h2, trivial⟩
  have hq : ∀ n, hasR [q] n ↔ q.1 ≤ n ∧ n < q.2 := fun n => by
    rw [hasR_cons]
    exact ⟨fun k => k.resolve_right (hasR_nil n), .inl⟩
  constructor
  · rintro ⟨r, hr, a, b⟩
    refine okR.uniq (comR_ok _ ho l (-1) (Int.le_refl _) h) ho (fun n => ?_)
    rw [comR_has, hq]
    exact ⟨fun k => k.2, fun k => ⟨⟨r, hr, by omega, by omega⟩, k⟩⟩
  · intro hc
    have hall : ∀ n, q.1 ≤ n → n < q.2 → hasR l n := fun n a b => by
      have := (hq n).2 ⟨a, b⟩
      rw [← hc, comR_has] at this
      exact this.1
    clear hc
    revert hall
    have key : ∀ (m : List Rg) (p : Int), okR p m → (∀ n, q.1 ≤ n → n < q.2 → hasR m n) → hldS m q := by
      intro m
      induction m with
      | nil => intro p _ hk; exact absurd (hk q.1 (Int.le_refl _) h1) (hasR_nil _)
      | cons x m ih =>
        intro p hm hk
        obtain ⟨k1, k2, k3, k4⟩ := hm
        rcases (hasR_cons x m q.1).1 (hk q.1 (Int.le_refl _) h1) with a | a
        · refine ⟨x, List.mem_cons_self .., a.1, Int.not_lt.1 fun hlt => ?_⟩
          rcases (hasR_cons x m x.2).1 (hk x.2 (by omega) hlt) with b | b
          · omega
          · have := okR.above k4 _ b; omega
        · have hq1 := okR.above k4 _ a
          obtain ⟨r, hr, b⟩ := ih x.2 k4 (fun n a1 a2 => by
            rcases (hasR_cons x m n).1 (hk n a1 a2) with c | c
            · omega
            · exact c)
          exact ⟨r, List.mem_cons_of_mem _ hr, b⟩
    exact key l (-1) h
/-- What the program makes of a piece that is sent: Sent is raised to its end, also where it has no bytes. -/
def sdI (b : Bool) (s : Sn) (p : Pc) : Sn :=
  if canS b s p then fixS { s with pe := if p.data.size ≠ 0 then remL s.pe (pcR p) else s.pe, fl := if p.data.size ≠ 0 then addL s.fl (pcR p) else s.fl, sent := max s.sent (pcR p).2, fi := if p.fin = true then 2 else s.fi } else s
theorem sdI_eq {b : Bool} {s : Sn} {p : Pc} (h : canS b s p → p.data.size = 0 → (pcR p).2 ≤ s.sent) : sdI b s p = sdS b s p := by
  unfold sdI sdS
  by_cases hc : canS b s p
  · rw [if_pos hc, if_pos hc]
    by_cases h0 : p.data.size = 0
    · have hz : ¬ p.data.size ≠ 0 := fun e => e h0
      have h1 := h hc h0
      simp only [if_neg hz]
      rw [show max s.sent (pcR p).2 = s.sent by omega]
    · have hz : p.data.size ≠ 0 := h0
      simp only [if_pos hz]
  · rw [if_neg hc, if_neg hc]
/-- The end alone is sent when nothing else is to be sent. -/
theorem nx_sent {s : Sn} (h : docSn s) {m l : Int} {p : Pc} (hp : nxS true s m l = some p) : sdI true s p = sdS true s p := by
  refine sdI_eq fun hc h0 => ?_
  obtain ⟨hf, hw, he⟩ := h.low (by have := hc.1.2.1; omega)
  have hen : (pcR p).2 ≤ s.rn.en := by
    have := hc.1.2.2.1.2.2.1
    show p.off + (p.data.size : Int) ≤ _
    omega
  have hpe : s.pe = [] := by
    cases hpe : s.pe with
    | nil => rfl
    | cons r L =>
      obtain ⟨n1, _, _, _, _, _⟩ := nx_ok h hp
      unfold nxS at hp
      rw [if_neg (fun e => e ⟨rfl, hc.1.2.1⟩), hpe] at hp
      dsimp only at hp
      by_cases hcc : min r.2 l ≤ r.1 ∨ cutS r m l ≤ r.1
      · rw [if_pos hcc] at hp; cases hp
      · rw [if_neg hcc] at hp
        injection hp with hp
        have hm : ∀ n, r.1 ≤ n → n < r.2 → hasR s.pe n := fun n a b => by rw [hpe]; exact ⟨r, List.mem_cons_self .., a, b⟩
        have hq := cutS_in (r := r) (m := m) (l := l) (by omega)
        have l1 := pe_low hw he (hm r.1 (Int.le_refl _) (by omega)) hf.2.2.2.1
        have l2 := pe_low hw he (hm (r.2 - 1) (by omega) (by omega)) hf.2.2.2.1
        have hcp : canP s.rn r.1 (cutS r m l - r.1) := ⟨hf.1, l1.1, by omega, by have := hf.1.2.2.2.2.2.2; omega, by omega⟩
        have hsz := pkR_size hcp
        subst hp
        have h0' : (pkR s.rn r.1 (cutS r m l - r.1)).size = 0 := h0
        omega
  have h5 := hf.2.2.2.2.1
  by_cases h9 : s.rn.en = 0
  · omega
  · rcases (hw.1 (s.rn.en - 1)).2 ⟨by omega, by omega⟩ with a | a | a
    · rw [hpe] at a; exact absurd a (hasR_nil _)
    · have := (okR_high hf.2.2.1).1 he.2.2.1 _ a; omega
    · have := (okR_high hf.2.2.2.1).1 he.2.2.2.1 _ a; omega
end Go.Proofs.Ytjohbfdifdjldac.Num

namespace Go.Proofs.Ytjohbfdifdjldac
open Go.RowKit Go.Deep Go.Proofs.Ytjohbfdifdjldac.Num

namespace Num
theorem okR.at {l : List Rg} {q : Int} {j : Nat} (h : j < l.length) : okR q (l.drop j) ↔ (q < l[j].1 ∧ l[j].1 < l[j].2 ∧ l[j].2 ≤ 4611686018427387903 ∧ okR l[j].2 (l.drop (j + 1))) := by
  rw [List.drop_eq_getElem_cons h]
  exact Iff.rfl
theorem gapR_at {l : List Rg} {n : Int} {j : Nat} (h : j < l.length) : gapR (l.drop j) n = gapR (l.drop (j + 1)) (if l[j].1 ≤ n ∧ n < l[j].2 then l[j].2 else n) := by
  rw [List.drop_eq_getElem_cons h]
  rfl
end Num

set_option maxRecDepth 100000 in
/-- impl.IsRanges -/
theorem iisr (l : List Rg) (A : Option Addr) (cap B : Nat) (w : World) (hB : B ≤ w.heap.size) (hr : Rgs w B A l) (hn : l.length ≤ 1000000000) :
    Calls Try.prog 85 #[.slice A l.length cap] w fun e w' => e = .returned (.bool (decide (okR (-1) l))) ∧ Below w.heap.size w w' := by
  have HR := Lib.hid hr
  clear hr
  go_enter Try.func85, Try.ntmps85
  go_wp2
  go_loopw [3, 8] (fun p i wr => ∃ (j : Nat) (q : Int), j ≤ l.length ∧ i = .int .i64 j ∧ p = .int .i64 q ∧ (okR (-1) l ↔ okR q (l.drop j)) ∧ Below w.heap.size w wr) (fun _ i _ => l.length - (intOf i).toNat)
  case atStart => exact ⟨0, -1, Nat.zero_le _, rfl, rfl, Iff.rfl, Below.refl _ _⟩
  case round =>
    obtain ⟨j, q, hj, rfl, rfl, hq, hb⟩ := hrel
    have HQ := Lib.hid hq
    have HB := Lib.hid hb
    clear hq hb
    by_cases hlt : j < l.length
    · have HRW := Lib.hid (HR.out.below hB HB.out)
      obtain ⟨b, off, rfl, hbB, c1, c2⟩ := HRW.out j hlt
      have HE := Lib.hid (HQ.out.trans (okR.at hlt))
      generalize l[j] = x at *
      by_cases h1 : x.1 ≤ q
      · have hd1 : decide (x.1 ≤ q) = true := decide_eq_true h1
        have HN : Hid (¬ okR (-1) l) := Lib.hid (fun h => by have := (HE.out.1 h).1; omega)
        clear h1
        go_wp2
        go_ret
        exact ⟨by rw [decide_eq_false HN.out]; rfl, HB.out.alloc HB.out.size _⟩
      · have hd1 : decide (x.1 ≤ q) = false := decide_eq_false h1
        by_cases h2 : x.2 ≤ x.1
        · have hd2 : decide (x.2 ≤ x.1) = true := decide_eq_true h2
          have HN : Hid (¬ okR (-1) l) := Lib.hid (fun h => by have := (HE.out.1 h).2.1; omega)
          clear h1 h2
          go_wp2
          go_ret
          exact ⟨by rw [decide_eq_false HN.out]; rfl, HB.out.alloc HB.out.size _⟩
        · have hd2 : decide (x.2 ≤ x.1) = false := decide_eq_false h2
          by_cases h3 : 4611686018427387903 < x.2
          · have hd3 : decide (4611686018427387903 < x.2) = true := decide_eq_true h3
            have HN : Hid (¬ okR (-1) l) := Lib.hid (fun h => by have := (HE.out.1 h).2.2.1; omega)
            clear h1 h2 h3
            go_wp2
            go_ret
            exact ⟨by rw [decide_eq_false HN.out]; rfl, HB.out.alloc HB.out.size _⟩
          · have hd3 : decide (4611686018427387903 < x.2) = false := decide_eq_false h3
            have HN : Hid (okR (-1) l ↔ okR x.2 (l.drop (j + 1))) := Lib.hid ⟨fun h => (HE.out.1 h).2.2.2, fun h => HE.out.2 ⟨by omega, by omega, by omega, h⟩⟩
            clear h1 h2 h3
            go_wp2
            go_roundw
            case rel => exact ⟨j + 1, x.2, hlt, by go_num, rfl, HN.out, HB.out.alloc HB.out.size _⟩
            case measure => simp [intOf]; omega
    · obtain rfl : j = l.length := by omega
      have HN : Hid (okR (-1) l) := Lib.hid (HQ.out.2 (by rw [List.drop_length]; trivial))
      go_wp2
      go_ret
      exact ⟨by rw [decide_eq_true HN.out]; rfl, HB.out⟩

/-- impl.inRange -/
theorem iinr (x : Rg) (n : Int) (w : World) :
    Calls Try.prog 105 #[rgV x, .int .i64 n] w fun e w' => e = .returned (.bool (decide (x.1 ≤ n ∧ n < x.2))) ∧ Below w.heap.size w w' := by
  by_cases h1 : x.1 ≤ n
  · have hd1 : decide (x.1 ≤ n) = true := decide_eq_true h1
    by_cases h2 : n < x.2
    · have hd2 : decide (n < x.2) = true := decide_eq_true h2
      rw [decide_eq_true ⟨h1, h2⟩]
      clear h1 h2
      go_enter Try.func105, Try.ntmps105
      go_wp2
      go_ret
      exact ⟨rfl, (Below.refl _ _).alloc (Nat.le_refl _) _⟩
    · have hd2 : decide (n < x.2) = false := decide_eq_false h2
      rw [decide_eq_false (fun h => h2 h.2)]
      clear h1 h2
      go_enter Try.func105, Try.ntmps105
      go_wp2
      go_ret
      exact ⟨rfl, (Below.refl _ _).alloc (Nat.le_refl _) _⟩
  · have hd1 : decide (x.1 ≤ n) = false := decide_eq_false h1
    rw [decide_eq_false (fun h => h1 h.1)]
    clear h1
    go_enter Try.func105, Try.ntmps105
    go_wp2
    go_ret
    exact ⟨rfl, (Below.refl _ _).alloc (Nat.le_refl _) _⟩

set_option maxRecDepth 100000 in
/-- impl.FirstGap -/
theorem igap (l : List Rg) (n : Int) (A : Option Addr) (cap B : Nat) (w : World) (hB : B ≤ w.heap.size) (hr : Rgs w B A l) (hn : l.length ≤ 1000000000) :
    Calls Try.prog 103 #[.slice A l.length cap, .int .i64 n] w fun e w' => e = .returned (.int .i64 (if okR (-1) l ∧ 0 ≤ n then gapR l n else -1)) ∧ Below w.heap.size w w' := by
  have HR := Lib.hid hr
  have HC := Lib.hid (iisr l A cap B w hB hr hn)
  clear hr
  by_cases h0 : n < 0
  · have hd0 : decide (n < 0) = true := decide_eq_true h0
    rw [if_neg (fun h => absurd h.2 (by omega))]
    clear h0
    go_enter Try.func103, Try.ntmps103
    go_wp2
    go_ret
    exact ⟨rfl, Below.refl _ _⟩
  · have hd0 : decide (n < 0) = false := decide_eq_false h0
    by_cases hk : okR (-1) l
    · rw [if_pos ⟨hk, by omega⟩]
      rw [decide_eq_true hk] at HC
      have HK := Lib.hid hk
      clear hk h0
      go_enter Try.func103, Try.ntmps103
      go_wp2_with fail
      refine HC.out.mono ?_
      rintro e w1 ⟨rfl, hb1⟩
      have HB1 := Lib.hid hb1
      clear hb1
      go_wp2
      go_loopw [16] (fun i wr => ∃ (j : Nat) (q : Int), j ≤ l.length ∧ i = .int .i64 j ∧ okR q (l.drop j) ∧ gapR l n = gapR (l.drop j) n ∧ Below w.heap.size w wr) (fun i _ => l.length - (intOf i).toNat)
      case atStart => exact ⟨0, -1, Nat.zero_le _, rfl, HK.out, rfl, HB1.out⟩
      case round =>
        obtain ⟨j, q, hj, rfl, hq, hg, hb⟩ := hrel
        have HB := Lib.hid hb
        clear hb
        by_cases hlt : j < l.length
        · have HRW := Lib.hid (HR.out.below hB HB.out)
          obtain ⟨b, off, rfl, hbB, c1, c2⟩ := HRW.out j hlt
          rw [okR.at hlt] at hq
          rw [gapR_at hlt] at hg
          have HQ := Lib.hid hq
          have HG := Lib.hid hg
          clear hq hg
          generalize l[j] = x at *
          have HI := Lib.hid (iinr x n)
          by_cases h : x.1 ≤ n ∧ n < x.2
          · rw [decide_eq_true h] at HI
            have HH : Hid (gapR l n = x.2) := Lib.hid (by rw [HG.out, if_pos h]; exact gapR_low _ _ _ HQ.out.2.2.2 (Int.le_refl _))
            clear h
            go_wp2_with fail
            refine (HI.out _).mono ?_
            rintro e w2 ⟨rfl, hb2⟩
            have c3 : w2.cell? ⟨wr.heap.size, 1, none⟩ = some (.int .i64 x.2) := (hb2.cell (by simp)).trans (by rw [World.cell?_alloc_at _ _ _ _ rfl]; rfl)
            have HB2 := Lib.hid ((HB.out.alloc HB.out.size (.cells #[.int .i64 x.1, .int .i64 x.2] 56)).trans (hb2.mono (by have := HB.out.size; simp; omega)))
            clear hb2
            go_wp2
            go_ret
            exact ⟨by rw [HH.out]; rfl, HB2.out⟩
          · rw [decide_eq_false h] at HI
            have HH : Hid (gapR l n = gapR (l.drop (j + 1)) n) := Lib.hid (by rw [HG.out, if_neg h])
            clear h
            go_wp2_with fail
            refine (HI.out _).mono ?_
            rintro e w2 ⟨rfl, hb2⟩
            have HB2 := Lib.hid ((HB.out.alloc HB.out.size (.cells #[.int .i64 x.1, .int .i64 x.2] 56)).trans (hb2.mono (by have := HB.out.size; simp; omega)))
            clear hb2
            go_wp2
            go_roundw
            case rel => exact ⟨j + 1, x.2, hlt, by go_num, HQ.out.2.2.2, HH.out, HB2.out⟩
            case measure => simp [intOf]; omega
        · obtain rfl : j = l.length := by omega
          rw [List.drop_length] at hg
          have HG : Hid (gapR l n = n) := Lib.hid hg
          clear hg hq
          go_wp2
          go_ret
          exact ⟨by rw [HG.out]; rfl, HB.out⟩
    · rw [if_neg (fun h => hk h.1)]
      rw [decide_eq_false hk] at HC
      clear hk h0
      go_enter Try.func103, Try.ntmps103
      go_wp2_with fail
      refine HC.out.mono ?_
      rintro e w1 ⟨rfl, hb1⟩
      have HB1 := Lib.hid hb1
      clear hb1
      go_wp2
      go_ret
      exact ⟨rfl, HB1.out⟩
end Go.Proofs.Ytjohbfdifdjldac

namespace Go.Proofs.Ytjohbfdifdjldac
open Go.RowKit Go.Deep Go.Proofs.Ytjohbfdifdjldac.Num

set_option maxRecDepth 100000 in
/-- impl.CountNumbers -/
theorem icnt (l : List Rg) (A : Option Addr) (cap B : Nat) (w : World) (hB : B ≤ w.heap.size) (hr : Rgs w B A l) (hn : l.length ≤ 1000000000) :
    Calls Try.prog 102 #[.slice A l.length cap] w fun e w' => e = .returned (.int .i64 (if okR (-1) l then cntR l else -1)) ∧ Below w.heap.size w w' := by
  have HR := Lib.hid hr
  have HC := Lib.hid (iisr l A cap B w hB hr hn)
  clear hr
  by_cases hk : okR (-1) l
  · have HK := Lib.hid hk
    rw [decide_eq_true hk] at HC
    rw [if_pos hk]
    clear hk
    go_enter Try.func102, Try.ntmps102
    go_wp2_with fail
    refine HC.out.mono ?_
    rintro e w1 ⟨rfl, hb1⟩
    have HB1 := Lib.hid hb1
    clear hb1
    go_wp2
    go_loopw [3, 11] (fun c i wr => ∃ j : Nat, j ≤ l.length ∧ i = .int .i64 j ∧ c = .int .i64 (cntR (l.take j)) ∧ Below w.heap.size w wr) (fun _ i _ => l.length - (intOf i).toNat)
    case atStart => exact ⟨0, Nat.zero_le _, rfl, rfl, HB1.out⟩
    case round =>
      obtain ⟨j, hj, rfl, rfl, hb⟩ := hrel
      have HB := Lib.hid hb
      clear hb
      by_cases hlt : j < l.length
      · have HRW := Lib.hid (HR.out.below hB HB.out)
        obtain ⟨b, off, rfl, hbB, c1, c2⟩ := HRW.out j hlt
        have hl := cntR_le _ _ (HK.out.take j) (by omega)
        have hl2 := cntR_le _ _ (HK.out.take (j + 1)) (by omega)
        have hf := HK.out.below l[j] (List.getElem_mem hlt)
        have hs := cntR_step l j hlt
        generalize hy : cntR (l.take j) = y at *
        generalize hx : l[j] = x at *
        have hw1 : IntKind.i64.wrap (x.2 - x.1) = x.2 - x.1 := by rw [IntKind.wrap_i64]; omega
        have hw2 : IntKind.i64.wrap (y + (x.2 - x.1)) = y + (x.2 - x.1) := by rw [IntKind.wrap_i64]; omega
        have HE : Hid (y + (x.2 - x.1) = cntR (l.take (j + 1))) := Lib.hid (by rw [hs])
        clear hs hl hl2 hf
        go_wp2
        go_roundw
        case rel => exact ⟨j + 1, hlt, by go_num, by rw [← HE.out], HB.out.alloc HB.out.size _⟩
        case measure => simp [intOf]; omega
      · obtain rfl : j = l.length := by omega
        have e : l.take l.length = l := List.take_of_length_le (Nat.le_refl _)
        rw [e]
        go_wp2
        go_ret
        exact ⟨rfl, HB.out⟩
  · rw [decide_eq_false hk] at HC
    rw [if_neg hk]
    clear hk
    go_enter Try.func102, Try.ntmps102
    go_wp2_with fail
    refine HC.out.mono ?_
    rintro e w1 ⟨rfl, hb1⟩
    have HB1 := Lib.hid hb1
    clear hb1
    go_wp2
    go_ret
    exact ⟨rfl, HB1.out⟩
end Go.Proofs.Ytjohbfdifdjldac

namespace Go.Proofs.Ytjohbfdifdjldac
open Go.RowKit Go.Deep Go.Proofs.Ytjohbfdifdjldac.Num

namespace Num
theorem both_above (x : Rg) (b : List Rg) (q : Int) (h : okR q b) (hx : x.2 ≤ q) : b.flatMap (bothR x) = [] := by
  rw [List.flatMap_eq_nil_iff]
  intro y hy
  have := h.below y hy
  unfold bothR
  rw [if_neg (by omega)]
theorem com_first (x y : Rg) (a b : List Rg) (p q : Int) (_ha : okR p (x :: a)) (hb : okR q (y :: b)) (h : x.2 < y.2) : comR (x :: a) (y :: b) = bothR x y ++ comR a (y :: b) := by
  have e : comR (x :: a) (y :: b) = (bothR x y ++ b.flatMap (bothR x)) ++ comR a (y :: b) := rfl
  rw [e, both_above x b y.2 hb.2.2.2 (by omega), List.append_nil]
theorem com_second (x y : Rg) (a b : List Rg) (p q : Int) (ha : okR p (x :: a)) (_hb : okR q (y :: b)) (h : ¬ x.2 < y.2) : comR (x :: a) (y :: b) = bothR x y ++ comR (x :: a) b := by
  have e : comR (x :: a) (y :: b) = (bothR x y ++ b.flatMap (bothR x)) ++ comR a (y :: b) := rfl
  have e2 : comR (x :: a) b = b.flatMap (bothR x) ++ comR a b := rfl
  have e3 : ∀ c : List Rg, okR x.2 c → comR c (y :: b) = comR c b := by
    intro c
    induction c with
    | nil => intro _; rfl
    | cons z c ih =>
      intro hc
      have e4 : comR (z :: c) (y :: b) = (bothR z y ++ b.flatMap (bothR z)) ++ comR c (y :: b) := rfl
      have e5 : comR (z :: c) b = b.flatMap (bothR z) ++ comR c b := rfl
      have h1 : bothR z y = [] := by
        unfold bothR
        have := hc.1
        rw [if_neg (by omega)]
      rw [e4, e5, h1, List.nil_append, ih (hc.2.2.2.weaker (by have := hc.1; have := hc.2.1; omega))]
  rw [e, e2, e3 a ha.2.2.2, List.append_assoc]
theorem com_none (a : List Rg) : comR a [] = [] := by
  induction a with
  | nil => rfl
  | cons x a ih =>
    have e : comR (x :: a) [] = [] ++ comR a [] := rfl
    rw [e, ih]
    rfl
end Num
/-- How many elements a slice has. -/
def lenV : Value → Nat
  | .slice _ n _ => n
  | _ => 0

set_option maxRecDepth 100000 in
set_option maxHeartbeats 1000000 in
/-- impl.CommonRanges, of two valid lists -/
theorem icom_yes (l m : List Rg) (A A' : Option Addr) (cap cap' B : Nat) (w : World) (hB : B ≤ w.heap.size) (hr : Rgs w B A l) (hr' : Rgs w B A' m) (hnm : l.length + m.length ≤ 1048576) (hc : l.length ≤ cap) (hc' : m.length ≤ cap') (hk : okR (-1) l) (hk' : okR (-1) m) :
    Calls Try.prog 66 #[.slice A l.length cap, .slice A' m.length cap'] w fun e w' => ∃ v, e = .returned v ∧ OwnR w' w.heap.size v (comR l m) ∧ Below w.heap.size w w' := by
  have HC := Lib.hid (iisr l A cap B w hB hr (by omega))
  rw [decide_eq_true hk] at HC
  have HC' : Hid (∀ W, Below w.heap.size w W → Calls Try.prog 85 #[.slice A' m.length cap'] W fun e w' => e = .returned (.bool true) ∧ Below W.heap.size W w') := Lib.hid fun W hW => by
    have := iisr m A' cap' B W (by have := hW.size; omega) (hr'.below hB hW) (by omega)
    rw [decide_eq_true hk'] at this
    exact this
  have HR := Lib.hid hr
  have HR' := Lib.hid hr'
  have HK := Lib.hid hk
  have HK' := Lib.hid hk'
  clear hr hr' hk hk'
  go_enter Try.func66, Try.ntmps66
  go_wp2_with fail
  refine HC.out.mono ?_
  rintro e w1 ⟨rfl, hb1⟩
  have HB1 := Lib.hid hb1
  clear hb1
  go_wp2_with fail
  refine (HC'.out _ HB1.out).mono ?_
  rintro e w2 ⟨rfl, hb2⟩
  have HB2 := Lib.hid (HB1.out.trans (hb2.mono HB1.out.size))
  clear hb2
  go_wp2
  go_loopw [0, 1, 5] (fun va vb vo wr => ∃ (a b acc : List Rg) (Aa Ab : Option Addr) (ca cb : Nat) (p q : Int), va = .slice Aa a.length ca ∧ vb = .slice Ab b.length cb ∧ a.length ≤ ca ∧ b.length ≤ cb ∧ Rgs wr B Aa a ∧ Rgs wr B Ab b ∧ okR p a ∧ okR q b ∧ comR l m = acc ++ comR a b ∧ acc.length + a.length + b.length ≤ l.length + m.length ∧ OwnR wr w.heap.size vo acc ∧ Below w.heap.size w wr) (fun va vb _ _ => lenV va + lenV vb)
  case atStart => exact ⟨l, m, [], A, A', cap, cap', -1, -1, rfl, rfl, hc, hc', HR.out.below hB HB2.out, HR'.out.below hB HB2.out, HK.out, HK'.out, rfl, by simp, OwnR.empty, HB2.out⟩
  case round =>
    obtain ⟨a, b, acc, Aa, Ab, ca, cb, p, q, rfl, rfl, hca, hcb, hra, hrb, hka, hkb, he, hlen, ho, hb⟩ := hrel
    have HRA := Lib.hid hra
    have HRB := Lib.hid hrb
    have HKA := Lib.hid hka
    have HKB := Lib.hid hkb
    have HE := Lib.hid he
    have HO := Lib.hid ho
    have HB := Lib.hid hb
    clear hra hrb hka hkb he ho hb HC HC' HR HR' HK HK'
    cases a with
    | nil =>
      have HE2 : Hid (comR l m = acc) := Lib.hid (by rw [HE.out]; simp [comR])
      go_wp2
      go_ret
      exact ⟨_, rfl, by rw [HE2.out]; exact HO.out, HB.out⟩
    | cons x a =>
      cases b with
      | nil =>
        have HE2 : Hid (comR l m = acc) := Lib.hid (by rw [HE.out, com_none, List.append_nil])
        go_wp2
        go_ret
        exact ⟨_, rfl, by rw [HE2.out]; exact HO.out, HB.out⟩
      | cons y b =>
        obtain ⟨g, off, rfl, hgB, c1, c2⟩ := HRA.out.head
        obtain ⟨g', off', rfl, hgB', d1, d2⟩ := HRB.out.head
        have HTA := Lib.hid HRA.out.tail
        have HTB := Lib.hid HRB.out.tail
        simp only [List.length_cons] at hca hcb hlen
        have hwr : w.heap.size ≤ wr.heap.size := HB.out.size
        obtain ⟨M, hmax⟩ : ∃ M : Int, (if x.1 < y.1 then y.1 else x.1) = M := ⟨_, rfl⟩
        obtain ⟨mm, hmin⟩ : ∃ mm : Int, (if y.2 < x.2 then y.2 else x.2) = mm := ⟨_, rfl⟩
        have hbo : bothR x y = if M < mm then [(M, mm)] else [] := by
          have e1 : max x.1 y.1 = M := by rw [← hmax]; split <;> omega
          have e2 : min x.2 y.2 = mm := by rw [← hmin]; split <;> omega
          unfold bothR
          rw [e1, e2]
        have hbl : (bothR x y).length ≤ 1 := by unfold bothR; split <;> simp
        have hS : ∀ W, Below w.heap.size wr W → W.cell? ⟨g, off, none⟩ = some (.int .i64 x.1) ∧ W.cell? ⟨g, off + 1, none⟩ = some (.int .i64 x.2) ∧ W.cell? ⟨g', off', none⟩ = some (.int .i64 y.1) ∧ W.cell? ⟨g', off' + 1, none⟩ = some (.int .i64 y.2) := fun W h =>
          ⟨(h.cell (by show g < _; omega)).trans c1, (h.cell (by show g < _; omega)).trans c2, (h.cell (by show g' < _; omega)).trans d1, (h.cell (by show g' < _; omega)).trans d2⟩
        have HH := Lib.hid hS
        clear c1 c2 d1 d2
        have hS1 := hS wr (Below.refl _ _)
        obtain ⟨c1, c2, d1, d2⟩ := hS1
        go_wp2
        go_region_held3 (fun W => W.cell? ⟨g, off, none⟩ = some (.int .i64 x.1) ∧ W.cell? ⟨g, off + 1, none⟩ = some (.int .i64 x.2) ∧ W.cell? ⟨g', off', none⟩ = some (.int .i64 y.1) ∧ W.cell? ⟨g', off' + 1, none⟩ = some (.int .i64 y.2)) (first | exact hS _ (Below.refl _ _).drew | exact hS _ ((Below.refl _ _).drew.alloc hwr _)) (fail)
        all_goals (
          have HBq := Lib.hid (HB.out.alloc hwr (.cells #[.int .i64 M, .int .i64 mm] 56)).drew
          have HOq : Hid (OwnR (wr.alloc (.cells #[.int .i64 M, .int .i64 mm] 56)).drew w.heap.size _ acc) := Lib.hid (HO.out.alloc _)
          have HXq : Hid (Box (wr.alloc (.cells #[.int .i64 M, .int .i64 mm] 56)).drew wr.heap.size (M, mm)) := Lib.hid (Box.new wr (M, mm))
          have hwq : w.heap.size ≤ (wr.alloc (.cells #[.int .i64 M, .int .i64 mm] 56)).drew.heap.size := HBq.out.size
          have HCq := Lib.hid (HH.out _ ((Below.refl _ wr).alloc hwr (.cells #[.int .i64 M, .int .i64 mm] 56)).drew)
          have HTAq := Lib.hid (HTA.out.below hB ((Below.refl _ wr).alloc hwr (.cells #[.int .i64 M, .int .i64 mm] 56)).drew)
          have HTBq := Lib.hid (HTB.out.below hB ((Below.refl _ wr).alloc hwr (.cells #[.int .i64 M, .int .i64 mm] 56)).drew)
          have HRAq := Lib.hid (HRA.out.below hB ((Below.refl _ wr).alloc hwr (.cells #[.int .i64 M, .int .i64 mm] 56)).drew)
          have HRBq := Lib.hid (HRB.out.below hB ((Below.refl _ wr).alloc hwr (.cells #[.int .i64 M, .int .i64 mm] 56)).drew)
          clear hS HH HB HO hmax hmin c1 c2 d1 d2 HTA HTB HRA HRB
          generalize (wr.alloc (.cells #[.int .i64 M, .int .i64 mm] 56)).drew = wq at *
          obtain ⟨q1, q2⟩ := HXq.out.cells
          by_cases h1 : M < mm
          · have hd1 : decide (M < mm) = true := decide_eq_true h1
            have HBO : Hid (bothR x y = [(M, mm)]) := Lib.hid (by rw [hbo, if_pos h1])
            clear hbo h1
            go_wp2_with (at_builtin; refine wpList_append_rgs _ rfl (.tmp 47) (.tmp 49) rfl w.heap.size _ acc rfl (OwnR.alloc (w := wq) HOq.out _) wq.heap.size 0 1 1 _ [(M, mm)] rfl rfl (rgs_one wq (M, mm) _) (by omega) (by simp; omega) ?_; intro v5 w5 h5 b5)
            have b6 := ((Below.refl _ wq).alloc hwq (.cells #[.int .i64 M, .int .i64 mm] 56)).trans b5
            have HB5 := Lib.hid (HBq.out.trans b6)
            have HO5 : Hid (OwnR w5 w.heap.size v5 (acc ++ bothR x y)) := Lib.hid (by rw [HBO.out]; exact h5)
            have HTA := Lib.hid (HTAq.out.below hB b6)
            have HTB := Lib.hid (HTBq.out.below hB b6)
            have HRA := Lib.hid (HRAq.out.below hB b6)
            have HRB := Lib.hid (HRBq.out.below hB b6)
            obtain ⟨_, c2, _, d2⟩ := HCq.out
            replace c2 := (b6.cell (p := ⟨g, off + 1, none⟩) (by show g < _; omega)).trans c2
            replace d2 := (b6.cell (p := ⟨g', off' + 1, none⟩) (by show g' < _; omega)).trans d2
            clear b5 b6 h5 HBq HOq HXq HCq HTAq HTBq HRAq HRBq q1 q2 hwq hd1
            by_cases h2 : x.2 < y.2
            · have hd2 : decide (x.2 < y.2) = true := decide_eq_true h2
              have HE2 : Hid (comR l m = (acc ++ bothR x y) ++ comR a (y :: b)) := Lib.hid (by rw [HE.out, com_first x y a b p q HKA.out HKB.out h2, List.append_assoc])
              clear h2
              by_cases hc1 : ca = 1
              · subst hc1
                obtain rfl : a = [] := List.eq_nil_of_length_eq_zero (by omega)
                go_wp2
                go_quiet (fail)
                go_wp2
                go_roundw
                case rel => exact ⟨[], y :: b, acc ++ bothR x y, _, _, _, cb, x.2, q, rfl, rfl, by simp, by simpa using hcb, Rgs.nil, HRB.out.below hB (belowR_drewN (Below.refl w.heap.size _) _), HKA.out.2.2.2, HKB.out, HE2.out, by rw [List.length_append]; simp only [List.length_cons, List.length_nil]; omega, HO5.out, belowR_drewN HB5.out _⟩
                case measure => simp [lenV]
              · have hc2 : (ca = 1) = False := eq_false hc1
                go_wp2
                go_quiet (fail)
                go_wp2
                go_roundw
                case rel => exact ⟨a, y :: b, acc ++ bothR x y, _, _, _, cb, x.2, q, rfl, rfl, by omega, by simpa using hcb, HTA.out.below hB (belowR_drewN (Below.refl w.heap.size _) _), HRB.out.below hB (belowR_drewN (Below.refl w.heap.size _) _), HKA.out.2.2.2, HKB.out, HE2.out, by rw [List.length_append]; simp only [List.length_cons]; omega, HO5.out, belowR_drewN HB5.out _⟩
                case measure => simp [lenV]
            · have hd2 : decide (x.2 < y.2) = false := decide_eq_false h2
              have HE2 : Hid (comR l m = (acc ++ bothR x y) ++ comR (x :: a) b) := Lib.hid (by rw [HE.out, com_second x y a b p q HKA.out HKB.out h2, List.append_assoc])
              clear h2
              by_cases hc1 : cb = 1
              · subst hc1
                obtain rfl : b = [] := List.eq_nil_of_length_eq_zero (by omega)
                go_wp2
                go_quiet (fail)
                go_wp2
                go_roundw
                case rel => exact ⟨x :: a, [], acc ++ bothR x y, _, _, ca, _, p, y.2, rfl, rfl, by simpa using hca, by simp, HRA.out.below hB (belowR_drewN (Below.refl w.heap.size _) _), Rgs.nil, HKA.out, HKB.out.2.2.2, HE2.out, by rw [List.length_append]; simp only [List.length_cons, List.length_nil]; omega, HO5.out, belowR_drewN HB5.out _⟩
                case measure => simp [lenV]
              · have hc2 : (cb = 1) = False := eq_false hc1
                go_wp2
                go_quiet (fail)
                go_wp2
                go_roundw
                case rel => exact ⟨x :: a, b, acc ++ bothR x y, _, _, ca, _, p, y.2, rfl, rfl, by simpa using hca, by omega, HRA.out.below hB (belowR_drewN (Below.refl w.heap.size _) _), HTB.out.below hB (belowR_drewN (Below.refl w.heap.size _) _), HKA.out, HKB.out.2.2.2, HE2.out, by rw [List.length_append]; simp only [List.length_cons]; omega, HO5.out, belowR_drewN HB5.out _⟩
                case measure => simp [lenV]
          · have hd1 : decide (M < mm) = false := decide_eq_false h1
            have HBO : Hid (bothR x y = []) := Lib.hid (by rw [hbo, if_neg h1])
            clear hbo h1
            go_wp2
            have HO5 : Hid (OwnR wq w.heap.size _ (acc ++ bothR x y)) := Lib.hid (by rw [HBO.out, List.append_nil]; exact HOq.out)
            have HB5 := HBq
            have HTA := HTAq
            have HTB := HTBq
            have HRA := HRAq
            have HRB := HRBq
            obtain ⟨_, c2, _, d2⟩ := HCq.out
            clear HBq HOq HXq HCq HTAq HTBq HRAq HRBq q1 q2 hwq hd1
            by_cases h2 : x.2 < y.2
            · have hd2 : decide (x.2 < y.2) = true := decide_eq_true h2
              have HE2 : Hid (comR l m = (acc ++ bothR x y) ++ comR a (y :: b)) := Lib.hid (by rw [HE.out, com_first x y a b p q HKA.out HKB.out h2, List.append_assoc])
              clear h2
              by_cases hc1 : ca = 1
              · subst hc1
                obtain rfl : a = [] := List.eq_nil_of_length_eq_zero (by omega)
                go_wp2
                go_quiet (fail)
                go_wp2
                go_roundw
                case rel => exact ⟨[], y :: b, acc ++ bothR x y, _, _, _, cb, x.2, q, rfl, rfl, by simp, by simpa using hcb, Rgs.nil, HRB.out.below hB (belowR_drewN (Below.refl w.heap.size _) _), HKA.out.2.2.2, HKB.out, HE2.out, by rw [List.length_append]; simp only [List.length_cons, List.length_nil]; omega, HO5.out, belowR_drewN HB5.out _⟩
                case measure => simp [lenV]
              · have hc2 : (ca = 1) = False := eq_false hc1
                go_wp2
                go_quiet (fail)
                go_wp2
                go_roundw
                case rel => exact ⟨a, y :: b, acc ++ bothR x y, _, _, _, cb, x.2, q, rfl, rfl, by omega, by simpa using hcb, HTA.out.below hB (belowR_drewN (Below.refl w.heap.size _) _), HRB.out.below hB (belowR_drewN (Below.refl w.heap.size _) _), HKA.out.2.2.2, HKB.out, HE2.out, by rw [List.length_append]; simp only [List.length_cons]; omega, HO5.out, belowR_drewN HB5.out _⟩
                case measure => simp [lenV]
            · have hd2 : decide (x.2 < y.2) = false := decide_eq_false h2
              have HE2 : Hid (comR l m = (acc ++ bothR x y) ++ comR (x :: a) b) := Lib.hid (by rw [HE.out, com_second x y a b p q HKA.out HKB.out h2, List.append_assoc])
              clear h2
              by_cases hc1 : cb = 1
              · subst hc1
                obtain rfl : b = [] := List.eq_nil_of_length_eq_zero (by omega)
                go_wp2
                go_quiet (fail)
                go_wp2
                go_roundw
                case rel => exact ⟨x :: a, [], acc ++ bothR x y, _, _, ca, _, p, y.2, rfl, rfl, by simpa using hca, by simp, HRA.out.below hB (belowR_drewN (Below.refl w.heap.size _) _), Rgs.nil, HKA.out, HKB.out.2.2.2, HE2.out, by rw [List.length_append]; simp only [List.length_cons, List.length_nil]; omega, HO5.out, belowR_drewN HB5.out _⟩
                case measure => simp [lenV]
              · have hc2 : (cb = 1) = False := eq_false hc1
                go_wp2
                go_quiet (fail)
                go_wp2
                go_roundw
                case rel => exact ⟨x :: a, b, acc ++ bothR x y, _, _, ca, _, p, y.2, rfl, rfl, by simpa using hca, by omega, HRA.out.below hB (belowR_drewN (Below.refl w.heap.size _) _), HTB.out.below hB (belowR_drewN (Below.refl w.heap.size _) _), HKA.out, HKB.out.2.2.2, HE2.out, by rw [List.length_append]; simp only [List.length_cons]; omega, HO5.out, belowR_drewN HB5.out _⟩
                case measure => simp [lenV])

set_option maxRecDepth 100000 in
/-- impl.CommonRanges, where one of the lists is not valid -/
theorem icom_no (l m : List Rg) (A A' : Option Addr) (cap cap' B : Nat) (w : World) (hB : B ≤ w.heap.size) (hr : Rgs w B A l) (hr' : Rgs w B A' m) (hnm : l.length + m.length ≤ 1048576) (hk : ¬ (okR (-1) l ∧ okR (-1) m)) :
    Calls Try.prog 66 #[.slice A l.length cap, .slice A' m.length cap'] w fun e w' => ∃ v, e = .returned v ∧ OwnR w' w.heap.size v [] ∧ Below w.heap.size w w' := by
  have HC := Lib.hid (iisr l A cap B w hB hr (by omega))
  have HC' : Hid (∀ W, Below w.heap.size w W → Calls Try.prog 85 #[.slice A' m.length cap'] W fun e w' => e = .returned (.bool (decide (okR (-1) m))) ∧ Below W.heap.size W w') := Lib.hid fun W hW =>
    iisr m A' cap' B W (by have := hW.size; omega) (hr'.below hB hW) (by omega)
  clear hr hr'
  by_cases h1 : okR (-1) l
  · have h2 : ¬ okR (-1) m := fun h => hk ⟨h1, h⟩
    rw [decide_eq_true h1] at HC
    rw [decide_eq_false h2] at HC'
    clear hk h1 h2
    go_enter Try.func66, Try.ntmps66
    go_wp2_with fail
    refine HC.out.mono ?_
    rintro e w1 ⟨rfl, hb1⟩
    have HB1 := Lib.hid hb1
    clear hb1
    go_wp2_with fail
    refine (HC'.out _ HB1.out).mono ?_
    rintro e w2 ⟨rfl, hb2⟩
    have HB2 := Lib.hid (HB1.out.trans (hb2.mono HB1.out.size))
    clear hb2
    go_wp2
    go_ret
    exact ⟨_, rfl, OwnR.empty, HB2.out⟩
  · rw [decide_eq_false h1] at HC
    clear hk h1
    go_enter Try.func66, Try.ntmps66
    go_wp2_with fail
    refine HC.out.mono ?_
    rintro e w1 ⟨rfl, hb1⟩
    have HB1 := Lib.hid hb1
    clear hb1
    go_wp2
    go_ret
    exact ⟨_, rfl, OwnR.empty, HB1.out⟩
end Go.Proofs.Ytjohbfdifdjldac

namespace Go.Proofs.Ytjohbfdifdjldac
open Go.RowKit Go.Deep Go.Proofs.Ytjohbfdifdjldac.Num

theorem cell_alloc1 (w : World) (v : Value) (t : TypeId) : (w.alloc (.cells #[v] t)).cell? ⟨w.heap.size, 0, none⟩ = some v := by
  rw [World.cell?_alloc_at _ _ _ _ rfl]; rfl
theorem cell_alloc3 (w : World) (v1 v2 v3 : Value) (t : TypeId) : (w.alloc (.cells #[v1, v2, v3] t)).cell? ⟨w.heap.size, 0, none⟩ = some v1 ∧ (w.alloc (.cells #[v1, v2, v3] t)).cell? ⟨w.heap.size, 1, none⟩ = some v2 ∧ (w.alloc (.cells #[v1, v2, v3] t)).cell? ⟨w.heap.size, 2, none⟩ = some v3 := by
  refine ⟨?_, ?_, ?_⟩ <;> (rw [World.cell?_alloc_at _ _ _ _ rfl]; rfl)
set_option maxRecDepth 100000 in
set_option maxHeartbeats 1000000 in
/-- impl's rangeSet.isValid -/
theorem isrv (l : List Rg) (A : Option Addr) (cap B : Nat) (w : World) (hB : B ≤ w.heap.size) (hr : Rgs w B A l) (hn : l.length ≤ 1048576) :
    Calls Try.prog 94 #[.agg #[(.slice A l.length cap)]] w fun e w' => e = .returned (.bool (decide (okR (-1) l))) ∧ Below w.heap.size w w' := by
  have HC : Hid (∀ W, Below w.heap.size w W → Calls Try.prog 85 #[(.slice A l.length cap)] W fun e w' => e = .returned (.bool (decide (okR (-1) l))) ∧ Below W.heap.size W w') := Lib.hid fun W h => iisr l A cap B W (Nat.le_trans hB h.size) (hr.below hB h) (Nat.le_trans hn (by decide))
  have X := cell_alloc1 w (.slice A l.length cap) 65
  have HB := Lib.hid ((Below.refl w.heap.size w).alloc (Nat.le_refl _) (.cells #[(.slice A l.length cap)] 65))
  clear hr hn
  go_enter Try.func94, Try.ntmps94
  go_wp2_with fail
  refine (HC.out _ HB.out).mono ?_
  rintro e w1 ⟨rfl, hb⟩
  have HB2 := Lib.hid (HB.out.trans (hb.mono HB.out.size))
  clear hb
  go_wp2
  go_ret
  exact ⟨rfl, HB2.out⟩
set_option maxRecDepth 100000 in
set_option maxHeartbeats 1000000 in
/-- impl's rangeSet.count -/
theorem isrc (l : List Rg) (A : Option Addr) (cap B : Nat) (w : World) (hB : B ≤ w.heap.size) (hr : Rgs w B A l) (hn : l.length ≤ 1048576) :
    Calls Try.prog 98 #[.agg #[(.slice A l.length cap)]] w fun e w' => e = .returned (.int .i64 (if okR (-1) l then cntR l else -1)) ∧ Below w.heap.size w w' := by
  have HC : Hid (∀ W, Below w.heap.size w W → Calls Try.prog 102 #[(.slice A l.length cap)] W fun e w' => e = .returned (.int .i64 (if okR (-1) l then cntR l else -1)) ∧ Below W.heap.size W w') := Lib.hid fun W h => icnt l A cap B W (Nat.le_trans hB h.size) (hr.below hB h) (Nat.le_trans hn (by decide))
  have X := cell_alloc1 w (.slice A l.length cap) 65
  have HB := Lib.hid ((Below.refl w.heap.size w).alloc (Nat.le_refl _) (.cells #[(.slice A l.length cap)] 65))
  clear hr hn
  generalize (if okR (-1) l then cntR l else -1) = q at *
  go_enter Try.func98, Try.ntmps98
  go_wp2_with fail
  refine (HC.out _ HB.out).mono ?_
  rintro e w1 ⟨rfl, hb⟩
  have HB2 := Lib.hid (HB.out.trans (hb.mono HB.out.size))
  clear hb
  go_wp2
  go_ret
  exact ⟨rfl, HB2.out⟩
set_option maxRecDepth 100000 in
set_option maxHeartbeats 1000000 in
/-- impl's ackedSet.firstMissing -/
theorem isrm (l : List Rg) (A : Option Addr) (cap B : Nat) (w : World) (hB : B ≤ w.heap.size) (hr : Rgs w B A l) (hn : l.length ≤ 1048576) :
    Calls Try.prog 99 #[.agg #[(.slice A l.length cap)]] w fun e w' => e = .returned (.int .i64 (if okR (-1) l then gapR l 0 else -1)) ∧ Below w.heap.size w w' := by
  have HC : Hid (∀ W, Below w.heap.size w W → Calls Try.prog 103 #[(.slice A l.length cap), .int .i64 0] W fun e w' => e = .returned (.int .i64 (if okR (-1) l then gapR l 0 else -1)) ∧ Below W.heap.size W w') := Lib.hid fun W h => (igap l 0 A cap B W (Nat.le_trans hB h.size) (hr.below hB h) (Nat.le_trans hn (by decide))).mono fun e w2 hh => ⟨by rw [hh.1]; congr 2; by_cases k : okR (-1) l <;> simp [k], hh.2⟩
  have X := cell_alloc1 w (.slice A l.length cap) 68
  have HB := Lib.hid ((Below.refl w.heap.size w).alloc (Nat.le_refl _) (.cells #[(.slice A l.length cap)] 68))
  clear hr hn
  generalize (if okR (-1) l then gapR l 0 else -1) = q at *
  go_enter Try.func99, Try.ntmps99
  go_wp2_with fail
  refine (HC.out _ HB.out).mono ?_
  rintro e w1 ⟨rfl, hb⟩
  have HB2 := Lib.hid (HB.out.trans (hb.mono HB.out.size))
  clear hb
  go_wp2
  go_ret
  exact ⟨rfl, HB2.out⟩
set_option maxRecDepth 100000 in
set_option maxHeartbeats 1000000 in
/-- impl's rangeSet.isEmpty -/
theorem isre (l : List Rg) (A : Option Addr) (cap : Nat) (w : World) :
    Calls Try.prog 95 #[.agg #[(.slice A l.length cap)]] w fun e w' => e = .returned (.bool (decide (l = []))) ∧ Below w.heap.size w w' := by
  have X := cell_alloc1 w (.slice A l.length cap) 65
  have HB := Lib.hid ((Below.refl w.heap.size w).alloc (Nat.le_refl _) (.cells #[(.slice A l.length cap)] 65))
  have HQ : Hid (((l.length : Int) == 0) = decide (l = [])) := Lib.hid (by cases l with | nil => rfl | cons x l => rw [decide_eq_false (List.cons_ne_nil _ _)]; simp; omega)
  go_enter Try.func95, Try.ntmps95
  go_wp2
  go_ret
  exact ⟨by rw [← HQ.out]; rfl, HB.out⟩
set_option maxRecDepth 100000 in
set_option maxHeartbeats 1000000 in
/-- impl's rangeSet.end -/
theorem isrd (l : List Rg) (A : Option Addr) (cap B : Nat) (w : World) (hB : B ≤ w.heap.size) (hr : Rgs w B A l) (hn : l.length ≤ 1048576) :
    Calls Try.prog 97 #[.agg #[(.slice A l.length cap)]] w fun e w' => e = .returned (.int .i64 (lastS l)) ∧ Below w.heap.size w w' := by
  have X := cell_alloc1 w (.slice A l.length cap) 65
  have HB := Lib.hid ((Below.refl w.heap.size w).alloc (Nat.le_refl _) (.cells #[(.slice A l.length cap)] 65))
  have HE := Lib.hid fun W => isre l A cap W
  by_cases h0 : l = []
  · rw [decide_eq_true h0] at HE
    have hl : lastS l = 0 := by rw [h0]; rfl
    rw [hl]
    clear h0 hr hn hl
    go_enter Try.func97, Try.ntmps97
    go_wp2_with fail
    refine (HE.out _).mono ?_
    rintro e w1 ⟨rfl, hb⟩
    have HB2 := Lib.hid (HB.out.trans (hb.mono HB.out.size))
    clear hb
    go_wp2
    go_ret
    exact ⟨rfl, HB2.out⟩
  · rw [decide_eq_false h0] at HE
    obtain ⟨n, hlen⟩ : ∃ n, l.length = n + 1 := ⟨l.length - 1, by cases l with | nil => exact absurd rfl h0 | cons x l => simp⟩
    have hlt : n < l.length := by omega
    have HL : Hid (lastS l = l[n].2) := Lib.hid (by rw [lastS_at l (by omega)]; congr 2; omega)
    obtain ⟨b, off, hA, hbB, hz1, hz2⟩ := hr n hlt
    clear hz1 hz2
    subst hA
    have hq : wrap64 (n : Int) = (n : Int) := by unfold wrap64; omega
    rw [hlen] at X HE
    have HC : Hid (∀ W, Below w.heap.size w W → W.cell? ⟨b, off + n * 2 + 1, none⟩ = some (.int .i64 l[n].2)) := Lib.hid fun W h => by
      obtain ⟨b2, off2, e, _, _, k2⟩ := (hr.below hB h) n hlt
      injection e with e
      injection e with e1 e2
      subst e1 e2
      exact k2
    rw [HL.out]
    generalize l[n].2 = y at *
    clear h0 hr hn hlt HL
    go_enter Try.func97, Try.ntmps97
    simp only [hlen] at *
    go_wp2_with fail
    refine (HE.out _).mono ?_
    rintro e w1 ⟨rfl, hb⟩
    have HB2 := Lib.hid (HB.out.trans (hb.mono HB.out.size))
    have X2 := hb.cell (p := ⟨w.heap.size, 0, none⟩) (by simp)
    rw [X] at X2
    have hc := HC.out _ HB2.out
    clear hb X
    go_wp2
    go_ret
    exact ⟨rfl, HB2.out⟩
set_option maxRecDepth 100000 in
set_option maxHeartbeats 1000000 in
/-- impl's rangeSet.meets -/
theorem isrs (l m : List Rg) (A A' : Option Addr) (cap cap' B : Nat) (w : World) (hB : B ≤ w.heap.size) (hr : Rgs w B A l) (hr' : Rgs w B A' m) (hn : l.length + m.length ≤ 1048576) (hc : l.length ≤ cap) (hc' : m.length ≤ cap') (hk : okR (-1) l) (hk' : okR (-1) m) :
    Calls Try.prog 96 #[.agg #[(.slice A l.length cap)], .agg #[.slice A' m.length cap']] w fun e w' => e = .returned (.bool (!decide (comR l m = []))) ∧ Below w.heap.size w w' := by
  have X := cell_alloc1 w (.slice A l.length cap) 65
  have h1 : (w.alloc (.cells #[(.slice A l.length cap)] 65)).heap.size = w.heap.size + 1 := by simp
  have hb1 := (Below.refl w.heap.size w).alloc (Nat.le_refl _) (.cells #[(.slice A l.length cap)] 65)
  have hb2 := hb1.alloc hb1.size (.cells #[.slice A' m.length cap'] 65)
  have Y := cell_alloc1 (w.alloc (.cells #[(.slice A l.length cap)] 65)) (.slice A' m.length cap') 65
  have X2 := ((Below.refl (w.heap.size + 1) (w.alloc (.cells #[(.slice A l.length cap)] 65))).alloc (by rw [h1]; exact Nat.le_refl _) (.cells #[.slice A' m.length cap'] 65)).cell (p := ⟨w.heap.size, 0, none⟩) (Nat.lt_succ_self _)
  rw [X] at X2
  rw [h1] at Y
  have HB := Lib.hid hb2
  have HC := Lib.hid (icom_yes l m A A' cap cap' B _ (Nat.le_trans hB hb2.size) (hr.below hB hb2) (hr'.below hB hb2) (by omega) hc hc' hk hk')
  have HQ : Hid (decide (0 < (comR l m).length) = !decide (comR l m = [])) := Lib.hid (by cases comR l m <;> simp)
  clear hr hr' hn hc hc' hk hk' hb1 hb2 X
  go_enter Try.func96, Try.ntmps96
  go_upto_region 1 with fail
  generalize (w.alloc (.cells #[(.slice A l.length cap)] 65)).alloc (.cells #[.slice A' m.length cap'] 65) = w2 at *
  go_wp2_with fail
  refine HC.out.mono ?_
  rintro e w1 ⟨v, rfl, ho, hb⟩
  obtain ⟨A3, c3, rfl, _, _⟩ := ho.p.frs
  have HB2 := Lib.hid (HB.out.trans (hb.mono HB.out.size))
  clear hb ho
  go_wp2
  go_ret
  exact ⟨by rw [← HQ.out]; rfl, HB2.out⟩
end Go.Proofs.Ytjohbfdifdjldac
