/-
  What laws.szFrameS returns.
-/
import Derived.Test.YtjbppociogoopaaDoorLFrs
namespace Go.Proofs.YtjbppociogoopaaDoor
open Go.RowKit Go.Deep Go.Proofs.YtjbppociogoopaaDoor.Num

theorem szFs_low (l : List Fr) : ∀ n, 0 ≤ n → -1 ≤ szFs n l ∧ szFs n l ≤ n := by
  induction l with
  | nil => intro n h; simp [szFs]; omega
  | cons f l ih =>
    intro n h
    unfold szFs
    split
    · omega
    · have := ih (n - f.data.size) (by omega)
      omega
/-- Where something is left, every frame's data is small. -/
theorem szFs_small (l : List Fr) : ∀ n, 0 ≤ n → 0 ≤ szFs n l → ∀ f ∈ l, (f.data.size : Int) ≤ n := by
  induction l with
  | nil => intro n _ _ f hf; cases hf
  | cons g l ih =>
    intro n h h2 f hf
    unfold szFs at h2
    split at h2
    · omega
    · rename_i hg
      rcases List.mem_cons.1 hf with rfl | hf
      · omega
      · have := ih (n - g.data.size) (by omega) h2 f hf
        omega

set_option maxRecDepth 100000 in
set_option maxHeartbeats 1000000 in
/-- laws.szFrameS -/
theorem lszs (l : List Fr) (A : Option Addr) (cap B : Nat) (w : World) (hB : B ≤ w.heap.size) (hr : Frs w B A l) (hn : l.length ≤ 9223372036854775807) (hs : ∀ f ∈ l, f.data.size ≤ 9223372036854775807) :
    Calls Tryd.prog 36 #[.slice A l.length cap, .int .i64 1048576] w fun e w' => e = .returned (.int .i64 (if 1048576 < (l.length : Int) then -1 else szFs (1048576 - l.length) l)) ∧ Below w.heap.size w w' := by
  have HR := Lib.hid hr
  have HS := Lib.hid hs
  clear hr hs
  have hw : wrap64 (1048576 - (l.length : Int)) = 1048576 - (l.length : Int) := by unfold wrap64; omega
  by_cases h : 1048576 < (l.length : Int)
  · rw [if_pos h]
    have hd : decide (1048576 - (l.length : Int) < 0) = true := decide_eq_true (by omega)
    clear h
    go_enter Tryd.func36, Tryd.ntmps36
    go_wp2
    go_ret
    exact ⟨rfl, Below.refl _ _⟩
  · rw [if_neg h]
    have hd : decide (1048576 - (l.length : Int) < 0) = false := decide_eq_false (by omega)
    have h0 : (0 : Int) ≤ 1048576 - (l.length : Int) := by omega
    have h1 : 1048576 - (l.length : Int) ≤ 1048576 := by omega
    clear h hw
    go_enter Tryd.func36, Tryd.ntmps36
    go_wp2
    generalize hn0 : 1048576 - (l.length : Int) = n0 at *
    have HN0 := Lib.hid hn0
    clear hn0
    go_loopw [1, 5] (fun v i wr => ∃ (j : Nat) (m : Int), j ≤ l.length ∧ i = .int .i64 j ∧ v = .int .i64 m ∧ 0 ≤ m ∧ m ≤ 1048576 ∧ szFs n0 l = szFs m (l.drop j) ∧ Below w.heap.size w wr) (fun _ i _ => l.length - (intOf i).toNat)
    case atStart => exact ⟨0, n0, Nat.zero_le _, rfl, rfl, h0, h1, by rw [List.drop_zero], Below.refl _ _⟩
    case round =>
      obtain ⟨j, m, hj, rfl, rfl, hm0, hm1, he, hb⟩ := hrel
      have HE := Lib.hid he
      have HB := Lib.hid hb
      clear he hb hd
      by_cases hlt : j < l.length
      · obtain ⟨b, off, rfl, hbB, c0, c1, c2, c3, c4, c5, c6, c7, c8⟩ := (HR.out.below hB HB.out).cells j hlt
        have hsz := HS.out _ (List.getElem_mem hlt)
        have HC := Lib.hid (lsz l[j] m wr (by omega) hm1 hsz)
        have HD : Hid (szFs n0 l = if m < (l[j].data.size : Int) then -1 else szFs (m - l[j].data.size) (l.drop (j + 1))) := Lib.hid (by
          rw [HE.out, List.drop_eq_getElem_cons hlt]
          rfl)
        clear HE
        generalize l[j] = x at *
        by_cases hx : m < (x.data.size : Int)
        · rw [if_pos hx] at HC HD
          clear hx
          go_wp2_with fail
          refine HC.out.mono ?_
          rintro e w1 ⟨rfl, hb1⟩
          have HB1 := Lib.hid (HB.out.trans (hb1.mono HB.out.size))
          clear hb1
          go_wp2
          go_ret
          exact ⟨by rw [HN0.out, HD.out]; rfl, HB1.out⟩
        · rw [if_neg hx] at HC HD
          obtain ⟨m2, hm2⟩ : ∃ m2 : Int, m - (x.data.size : Int) = m2 := ⟨_, rfl⟩
          rw [hm2] at HC HD
          have hm20 : 0 ≤ m2 := by omega
          have hm21 : m2 ≤ 1048576 := by omega
          have hd2 : decide (m2 < 0) = false := decide_eq_false (by omega)
          clear hx hm2
          go_wp2_with fail
          refine HC.out.mono ?_
          rintro e w1 ⟨rfl, hb1⟩
          have HB1 := Lib.hid (HB.out.trans (hb1.mono HB.out.size))
          clear hb1
          go_wp2
          go_roundw
          case rel => exact ⟨j + 1, m2, hlt, by go_num, rfl, hm20, hm21, HD.out, HB1.out⟩
          case measure => simp [intOf]; omega
      · obtain rfl : j = l.length := by omega
        have HD : Hid (szFs n0 l = m) := Lib.hid (by rw [HE.out, List.drop_length]; rfl)
        clear HE
        go_wp2
        go_ret
        exact ⟨by rw [HN0.out, HD.out]; rfl, HB.out⟩
end Go.Proofs.YtjbppociogoopaaDoor
