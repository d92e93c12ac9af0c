/-
  What laws.markIntS and laws.heldIntS return: the marks 1, 2, .. are written into a slice of the call's own, and found there again.
-/
import Derived.Test.YtjohbfdifdjldaaToInts
namespace Go.Proofs.Ytjohbfdifdjldaa
open Go.RowKit Go.Deep Go.Proofs.Ytjohbfdifdjldaa.Num

/-- The marks from k on, n of them. -/
def marks (k : Int) : Nat → List Int
  | 0 => []
  | n + 1 => k :: marks (k + 1) n
theorem marks_len (n : Nat) : ∀ k, (marks k n).length = n := by
  induction n with
  | zero => intro k; rfl
  | succ n ih => intro k; simp [marks, ih]
theorem marks_at (n : Nat) : ∀ k j (h : j < (marks k n).length), (marks k n)[j] = k + (j : Int) := by
  induction n with
  | zero => intro k j h; simp [marks] at h
  | succ n ih =>
    intro k j h
    cases j with
    | zero => simp [marks]
    | succ j =>
      have h2 := ih (k + 1) j (by simpa [marks] using h)
      simp only [marks, List.getElem_cons_succ]
      rw [h2]; omega
theorem marks_snoc (n : Nat) : ∀ k, marks k (n + 1) = marks k n ++ [k + (n : Int)] := by
  induction n with
  | zero => intro k; simp [marks]
  | succ n ih =>
    intro k
    show k :: marks (k + 1) (n + 1) = k :: marks (k + 1) n ++ _
    rw [ih]
    simp
    omega

theorem valsI_set (a b : List Int) (c x : Int) : (valsI (a ++ c :: b)).set a.length (.int .i64 x) = valsI (a ++ x :: b) := by
  unfold valsI
  rw [List.map_append, List.map_cons, List.set_append_right _ _ (by simp)]
  simp
/-- One cell of such a slice is written. -/
theorem OwnI.set {w : World} {base g cap : Nat} {a b : List Int} {c : Int} (h : OwnI w base (.slice (some ⟨g, 0, none⟩) (a ++ c :: b).length cap) (a ++ c :: b)) (x : Int) :
    OwnI (w.setCell ⟨g, a.length, none⟩ (.int .i64 x)) base (.slice (some ⟨g, 0, none⟩) (a ++ x :: b).length cap) (a ++ x :: b) := by
  have h1 := (World.ownsRow.stored h a.length (.int .i64 x)).1
  rw [valsI_set] at h1
  unfold OwnI
  rw [show (a ++ x :: b).length = (a ++ c :: b).length from by simp]
  exact h1

set_option maxRecDepth 100000 in
/-- laws.markIntS, on a slice of the call's own. -/
theorem mark (zs : List Int) (base g cap : Nat) (w : World) (ho : OwnI w base (.slice (some ⟨g, 0, none⟩) zs.length cap) zs) (hn : zs.length ≤ 1000000000) :
    Calls Try.prog 46 #[.slice (some ⟨g, 0, none⟩) zs.length cap, .int .i64 1] w fun e w' => e = .returned (.int .i64 (1 + (zs.length : Int))) ∧ OwnI w' base (.slice (some ⟨g, 0, none⟩) (marks 1 zs.length).length cap) (marks 1 zs.length) ∧ Below base w w' := by
  have HO := Lib.hid ho
  have hbg : base ≤ g := (World.ownsRow.lt ho g rfl).1
  clear ho
  go_enter Try.func46, Try.ntmps46
  go_wp2
  go_loopw [1, 5] (fun k i wr => ∃ (j : Nat) (r : List Int), j + r.length = zs.length ∧ i = .int .i64 j ∧ k = .int .i64 (1 + (j : Int)) ∧ OwnI wr base (.slice (some ⟨g, 0, none⟩) (marks 1 j ++ r).length cap) (marks 1 j ++ r) ∧ Below base w wr) (fun _ i _ => zs.length - (intOf i).toNat)
  case atStart => exact ⟨0, zs, by omega, rfl, rfl, by simpa [marks] using HO.out, Below.refl _ _⟩
  case round =>
    obtain ⟨j, r, hj, rfl, rfl, hown, hb⟩ := hrel
    have HW := Lib.hid hown
    have HB := Lib.hid hb
    cases r with
    | nil =>
      obtain rfl : j = zs.length := by simpa using hj
      clear hown hb
      go_wp2
      go_ret
      exact ⟨rfl, by simpa using HW.out, HB.out⟩
    | cons c r =>
      have hlt : j < zs.length := by rw [List.length_cons] at hj; omega
      have hml : (marks 1 j).length = j := marks_len j 1
      have hll : (marks 1 j ++ c :: r).length = zs.length := by rw [List.length_append, hml, hj]
      rw [hll] at hown
      have hall := hll
      have hc : ∃ u, wr.cell? ⟨g, j, none⟩ = some u := by
        have h0 := World.ownsRow.cellAt (hall ▸ hown) j (by rw [hall]; omega)
        exact ⟨_, h0.trans (by rw [List.getElem?_eq_getElem (by rw [valsI_len, hall]; omega)])⟩
      obtain ⟨u, hc⟩ := hc
      have hfz : wr.frozen? ⟨g, j, none⟩ = false := World.ownsRow.frozenAt (hall ▸ hown) j
      have HS := Lib.hid (HW.out.set (1 + (j : Int)))
      rw [hml] at HS
      have HM := Lib.hid (marks_snoc j 1)
      clear hown hb hall hll
      go_wp2
      go_roundw
      case rel => exact ⟨j + 1, r, by rw [List.length_cons] at hj; omega, by go_num, by go_num, by rw [HM.out, List.append_assoc]; exact HS.out, HB.out.setCell (p := ⟨g, j, none⟩) hbg _⟩
      case measure => simp [intOf]; omega

set_option maxRecDepth 100000 in
/-- laws.markIntS, on no slice. -/
theorem mark_nil (w : World) :
    Calls Try.prog 46 #[.slice none 0 0, .int .i64 1] w fun e w' => e = .returned (.int .i64 1) ∧ w' = w := by
  go_enter Try.func46, Try.ntmps46
  go_wp2
  go_loop [1, 5] (fun k i => i = .int .i64 0 ∧ k = .int .i64 1) (fun _ i => (intOf i).toNat)
  case atStart => exact ⟨rfl, rfl⟩
  case round =>
    obtain ⟨rfl, rfl⟩ := hrel
    go_wp2
    go_ret
    exact ⟨rfl, rfl⟩

set_option maxRecDepth 100000 in
/-- laws.heldIntS, of a slice that holds the marks. -/
theorem held (n : Nat) (A : Option Addr) (cap B : Nat) (w : World) (hr : Ints w B A (marks 1 n)) (hn : n ≤ 1000000000) :
    Calls Try.prog 47 #[.slice A n cap, .int .i64 1] w fun e w' => e = .returned (.int .i64 (1 + (n : Int))) ∧ w' = w := by
  have HR := Lib.hid hr
  clear hr
  go_enter Try.func47, Try.ntmps47
  go_wp2
  go_loop [1, 5] (fun k i => ∃ j : Nat, j ≤ n ∧ i = .int .i64 j ∧ k = .int .i64 (1 + (j : Int))) (fun _ i => n - (intOf i).toNat)
  case atStart => exact ⟨0, Nat.zero_le _, rfl, rfl⟩
  case round =>
    obtain ⟨j, hj, rfl, rfl⟩ := hrel
    by_cases hlt : j < n
    · obtain ⟨b, off, rfl, hbB, hc⟩ := HR.out j (by rw [marks_len]; exact hlt)
      rw [marks_at] at hc
      go_wp2
      go_round
      case rel => exact ⟨j + 1, by omega, by go_num, by go_num⟩
      case measure => simp [intOf]; omega
    · obtain rfl : j = n := by omega
      go_wp2
      go_ret
      exact ⟨rfl, rfl⟩
end Go.Proofs.Ytjohbfdifdjldaa
