/-
  What the laws' words on chunks and on slices of them return: szChunk, toChunk, eqChunk, szChunkS, toChunkS, eqChunkS.
  What laws.szChunkS returns.
-/
import Derived.Test.YtmmoedhfeaokgaaChs
import Derived.Deep.DeepCutAuto
import Derived.Deep.CutBlock
import Derived.BigQuiet
import Derived.Deep.QuietTactic
import Derived.Deep.RegionHeld3
import Derived.Deep.RegionLaw
namespace Go.Proofs.Ytmmoedhfeaokgaa
open Go.RowKit Go.Deep Go.Proofs.Ytmmoedhfeaokgaa.Num

theorem ch_third (w : World) (o1 o2 o3 : Obj) : (((w.alloc o1).alloc o2).alloc o3).heap[w.heap.size + 1]? = some o2 := by
  have h : (w.alloc o1).heap.size = w.heap.size + 1 := by simp
  rw [← h]
  exact (Below.heap_alloc _ _ _ (by simp)).trans (heap_alloc_new _ _)
/-- laws.szChunk -/
theorem lszc (f : Ch) (n : Int) (w : World) (h0 : -1 ≤ n) (h1 : n ≤ 1048576) (hs : f.data.size ≤ 9223372036854775807) :
    Calls Try.prog 96 #[chV f, .int .i64 n] w fun e w' => e = .returned (.int .i64 (if n < f.data.size then -1 else n - f.data.size)) ∧ Below w.heap.size w w' := by
  have hw : wrap64 (n - f.data.size) = n - f.data.size := by unfold wrap64; omega
  by_cases h : n < f.data.size
  · rw [if_pos h]
    have hd : decide (n - f.data.size < 0) = true := decide_eq_true (by omega)
    clear h
    go_enter Try.func96, Try.ntmps96
    go_wp2
    go_ret
    exact ⟨rfl, (Below.refl _ _).alloc (Nat.le_refl _) _⟩
  · rw [if_neg h]
    have hd : decide (n - f.data.size < 0) = false := decide_eq_false (by omega)
    clear h
    go_enter Try.func96, Try.ntmps96
    go_wp2
    go_ret
    exact ⟨rfl, (Below.refl _ _).alloc (Nat.le_refl _) _⟩

set_option maxRecDepth 100000 in
/-- laws.toChunk -/
theorem ltoc (x : Ch) (w : World) :
    Calls Try.prog 97 #[chV x] w fun e w' => e = .returned (chV x) ∧ Below w.heap.size w w' := by
  go_enter Try.func97, Try.ntmps97
  go_wp2
  refine bodyPost_ret (results_cell_row rfl _ _ (w.heap.size + 1) _ _ _ _ rfl (ch_third w _ _ _) Try.underlying93 rfl (by kernel_rfl)) rfl ?_
  exact ⟨rfl, (((Below.refl _ _).alloc (Nat.le_refl _) _).alloc (by simp) _).alloc (by simp; omega) _⟩

set_option maxRecDepth 100000 in
/-- laws.eqChunk of a frame and itself -/
theorem leqc (f : Ch) (w : World) :
    Calls Try.prog 94 #[chV f, chV f] w fun e w' => e = .returned (.bool true) ∧ Below w.heap.size w w' := by
  have h1 : ∀ n : Int, (n != n) = false := fun n => by simp
  go_enter Try.func94, Try.ntmps94
  go_wp2
  go_ret
  exact ⟨rfl, ((Below.refl _ _).alloc (Nat.le_refl _) _).alloc (by simp) _⟩
theorem belowC_drewN {B : Nat} {a w : World} (h : Below B a w) (n : Nat) : Below B a (w.drewN n) := ⟨h.os, h.tape, h.output, h.size, h.block⟩
set_option maxRecDepth 100000 in
/-- laws.eqChunkS, of two slices that hold the same. -/
theorem eqchunks (l : List Ch) (A A' : Option Addr) (cap cap' B : Nat) (w : World) (hB : B ≤ w.heap.size) (hr : Chs w B A l) (hr' : Chs w B A' l) (hn : l.length ≤ 1000000000) :
    Calls Try.prog 78 #[.slice A l.length cap, .slice A' l.length cap'] w fun e w' => e = .returned (.bool true) ∧ Below w.heap.size w w' := by
  have HR := Lib.hid hr
  have HR' := Lib.hid hr'
  clear hr hr'
  go_enter Try.func78, Try.ntmps78
  go_wp2
  go_loopw [5] (fun i wr => ∃ j : Nat, j ≤ l.length ∧ i = .int .i64 j ∧ Below w.heap.size w wr) (fun i _ => l.length - (intOf i).toNat)
  case atStart => exact ⟨0, Nat.zero_le _, rfl, Below.refl _ _⟩
  case round =>
    obtain ⟨j, hj, rfl, hb⟩ := hrel
    have HB := Lib.hid hb
    clear hb
    by_cases hlt : j < l.length
    · obtain ⟨b, off, rfl, hbB, c0, c1⟩ := (HR.out.below hB HB.out).cells j hlt
      obtain ⟨b', off', rfl, hbB', d0, d1⟩ := (HR'.out.below hB HB.out).cells j hlt
      generalize l[j] = x at *
      have HQ := Lib.hid (leqc x)
      have hwr : w.heap.size ≤ wr.heap.size := HB.out.size
      go_wp2
      go_region_with (go_at_call 94; refine (HQ.out _).mono ?_; rintro e w1 ⟨rfl, hb1⟩; have HB1 := Lib.hid (HB.out.drew.trans (hb1.mono hwr)); clear hb1)
      all_goals go_wp2
      all_goals go_roundw
      all_goals first | exact ⟨j + 1, by omega, by go_num, HB1.out⟩ | (simp [intOf]; omega)
    · obtain rfl : j = l.length := by omega
      go_wp2
      go_ret
      exact ⟨rfl, HB.out⟩
set_option maxRecDepth 100000 in
/-- laws.toChunkS: a copy, in a new block. -/
theorem tochunks (l : List Ch) (A : Option Addr) (cap B : Nat) (w : World) (hB : B ≤ w.heap.size) (hr : Chs w B A l) (hn : l.length ≤ 1048576) :
    Calls Try.prog 82 #[.slice A l.length cap] w fun e w' => e = .returned (.slice (some ⟨w.heap.size, 0, none⟩) l.length l.length) ∧ RowC w' w.heap.size w.heap.size l.length l.length l ∧ Below w.heap.size w w' := by
  have HR := Lib.hid hr
  clear hr
  obtain ⟨w0, hmk, ho0, hb0⟩ := make_chs l.length hn w
  have HO0 := Lib.hid ho0
  have HB0 := Lib.hid hb0
  clear ho0 hb0
  go_enter Try.func82, Try.ntmps82
  go_wp2
  clear hmk
  go_loopw [4] (fun i wr => ∃ (j : Nat) (m : List Ch), j ≤ l.length ∧ i = .int .i64 j ∧ RowC wr w.heap.size w.heap.size l.length l.length m ∧ m.take j = l.take j ∧ Below w.heap.size w wr) (fun i _ => l.length - (intOf i).toNat)
  case atStart => exact ⟨0, _, Nat.zero_le _, rfl, HO0.out, rfl, HB0.out⟩
  case round =>
    obtain ⟨j, m, hj, rfl, ho, ht, hb⟩ := hrel
    have HO := Lib.hid ho
    have HB := Lib.hid hb
    have HT := Lib.hid ht
    clear ho hb ht HO0 HB0
    by_cases hlt : j < l.length
    · have HRW := Lib.hid (HR.out.below hB HB.out)
      obtain ⟨b, off, rfl, hbB, c1, c2⟩ := HRW.out.cells j hlt
      have HX : Hid (l[j] = l[j]) := Lib.hid rfl
      have HS : Hid (∀ x, l[j] = x → (m.set j x).take (j + 1) = l.take (j + 1)) := Lib.hid (fun x hx => set_takeC HO.out.1 HT.out hlt x hx)
      generalize hx : l[j] = x at *
      have HS2 := Lib.hid (HS.out x rfl)
      go_wp2_with fail
      refine (ltoc x _).mono ?_
      rintro e w1 ⟨rfl, hb1⟩
      have HO1 := Lib.hid (HO.out.later hb1)
      have HB1 := Lib.hid (HB.out.trans (hb1.mono HB.out.size))
      have hjm : j < m.length := by rw [HO.out.1]; exact hlt
      obtain ⟨q1, q2⟩ := HO1.out.cells j hjm
      have hfz := HO1.out.free
      clear hb1 c1 c2 hx HS HX
      go_wp2
      go_roundw
      case rel => exact ⟨j + 1, _, hlt, by go_num, HO1.out.store j hjm x, HS2.out, (HB1.out.setCell (p := ⟨_, _, _⟩) (Nat.le_refl _) _).setCell (p := ⟨_, _, _⟩) (Nat.le_refl _) _⟩
      case measure => simp [intOf]; omega
    · obtain rfl : j = l.length := by omega
      have HE : Hid (m = l) := Lib.hid (by
        have h := HT.out
        rw [List.take_of_length_le (by rw [HO.out.1]; exact Nat.le_refl _), List.take_of_length_le (Nat.le_refl _)] at h
        exact h)
      have HO2 := HO
      rw [HE.out] at HO2
      go_wp2
      go_ret
      exact ⟨rfl, HO2.out, HB.out⟩

end Go.Proofs.Ytmmoedhfeaokgaa

namespace Go.Proofs.Ytmmoedhfeaokgaa
open Go.RowKit Go.Deep Go.Proofs.Ytmmoedhfeaokgaa.Num

/-- What is left of a size when chunks are taken off; -1, once nothing is. -/
def szCs : Int → List Ch → Int
  | n, [] => n
  | n, f :: l => if n < f.data.size then -1 else szCs (n - f.data.size) l
theorem szCs_done (n : Int) : szCs n [] = n := rfl
theorem szCs_low (l : List Ch) : ∀ n, 0 ≤ n → -1 ≤ szCs n l ∧ szCs n l ≤ n := by
  induction l with
  | nil => intro n h; simp [szCs]; omega
  | cons f l ih =>
    intro n h
    unfold szCs
    split
    · omega
    · have := ih (n - f.data.size) (by omega)
      omega
/-- Where something is left, every chunk's data is small. -/
theorem szCs_small (l : List Ch) : ∀ n, 0 ≤ n → 0 ≤ szCs n l → ∀ f ∈ l, (f.data.size : Int) ≤ n := by
  induction l with
  | nil => intro n _ _ f hf; cases hf
  | cons g l ih =>
    intro n h h2 f hf
    unfold szCs at h2
    split at h2
    · omega
    · rename_i hg
      rcases List.mem_cons.1 hf with rfl | hf
      · omega
      · have := ih (n - g.data.size) (by omega) h2 f hf
        omega

set_option maxRecDepth 100000 in
set_option maxHeartbeats 1000000 in
/-- laws.szChunkS -/
theorem lszcs (N : Int) (hN0 : 0 ≤ N) (hN1 : N ≤ 1048576) (l : List Ch) (A : Option Addr) (cap B : Nat) (w : World) (hB : B ≤ w.heap.size) (hr : Chs w B A l) (hn : l.length ≤ 9223372036854775807) (hs : ∀ f ∈ l, f.data.size ≤ 9223372036854775807) :
    Calls Try.prog 81 #[.slice A l.length cap, .int .i64 N] w fun e w' => e = .returned (.int .i64 (if N < (l.length : Int) then -1 else szCs (N - l.length) l)) ∧ Below w.heap.size w w' := by
  have HR := Lib.hid hr
  have HS := Lib.hid hs
  clear hr hs
  have hw : wrap64 (N - (l.length : Int)) = N - (l.length : Int) := by unfold wrap64; omega
  by_cases h : N < (l.length : Int)
  · rw [if_pos h]
    have hd : decide (N - (l.length : Int) < 0) = true := decide_eq_true (by omega)
    clear h
    go_enter Try.func81, Try.ntmps81
    go_wp2
    go_ret
    exact ⟨rfl, Below.refl _ _⟩
  · rw [if_neg h]
    have hd : decide (N - (l.length : Int) < 0) = false := decide_eq_false (by omega)
    have h0 : (0 : Int) ≤ N - (l.length : Int) := by omega
    have h1 : N - (l.length : Int) ≤ 1048576 := by omega
    clear h hw
    go_enter Try.func81, Try.ntmps81
    go_wp2
    generalize hn0 : N - (l.length : Int) = n0 at *
    have HN0 := Lib.hid hn0
    clear hn0
    go_loopw [1, 5] (fun v i wr => ∃ (j : Nat) (m : Int), j ≤ l.length ∧ i = .int .i64 j ∧ v = .int .i64 m ∧ 0 ≤ m ∧ m ≤ 1048576 ∧ szCs n0 l = szCs m (l.drop j) ∧ Below w.heap.size w wr) (fun _ i _ => l.length - (intOf i).toNat)
    case atStart => exact ⟨0, n0, Nat.zero_le _, rfl, rfl, h0, h1, by rw [List.drop_zero], Below.refl _ _⟩
    case round =>
      obtain ⟨j, m, hj, rfl, rfl, hm0, hm1, he, hb⟩ := hrel
      have HE := Lib.hid he
      have HB := Lib.hid hb
      clear he hb hd
      by_cases hlt : j < l.length
      · obtain ⟨b, off, rfl, hbB, c0, c1⟩ := (HR.out.below hB HB.out).cells j hlt
        have hsz := HS.out _ (List.getElem_mem hlt)
        have HC := Lib.hid (lszc l[j] m wr (by omega) hm1 hsz)
        have HD : Hid (szCs n0 l = if m < (l[j].data.size : Int) then -1 else szCs (m - l[j].data.size) (l.drop (j + 1))) := Lib.hid (by
          rw [HE.out, List.drop_eq_getElem_cons hlt]
          rfl)
        clear HE
        generalize l[j] = x at *
        by_cases hx : m < (x.data.size : Int)
        · rw [if_pos hx] at HC HD
          clear hx
          go_wp2_with fail
          refine HC.out.mono ?_
          rintro e w1 ⟨rfl, hb1⟩
          have HB1 := Lib.hid (HB.out.trans (hb1.mono HB.out.size))
          clear hb1
          go_wp2
          go_ret
          exact ⟨by rw [HN0.out, HD.out]; rfl, HB1.out⟩
        · rw [if_neg hx] at HC HD
          obtain ⟨m2, hm2⟩ : ∃ m2 : Int, m - (x.data.size : Int) = m2 := ⟨_, rfl⟩
          rw [hm2] at HC HD
          have hm20 : 0 ≤ m2 := by omega
          have hm21 : m2 ≤ 1048576 := by omega
          have hd2 : decide (m2 < 0) = false := decide_eq_false (by omega)
          clear hx hm2
          go_wp2_with fail
          refine HC.out.mono ?_
          rintro e w1 ⟨rfl, hb1⟩
          have HB1 := Lib.hid (HB.out.trans (hb1.mono HB.out.size))
          clear hb1
          go_wp2
          go_roundw
          case rel => exact ⟨j + 1, m2, hlt, by go_num, rfl, hm20, hm21, HD.out, HB1.out⟩
          case measure => simp [intOf]; omega
      · obtain rfl : j = l.length := by omega
        have HD : Hid (szCs n0 l = m) := Lib.hid (by rw [HE.out, List.drop_length]; rfl)
        clear HE
        go_wp2
        go_ret
        exact ⟨by rw [HN0.out, HD.out]; rfl, HB.out⟩
end Go.Proofs.Ytmmoedhfeaokgaa
