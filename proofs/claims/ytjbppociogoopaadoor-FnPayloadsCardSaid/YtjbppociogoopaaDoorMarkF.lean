/-
  What laws.markFrameS and laws.heldFrameS return.
-/
import Derived.Test.YtjbppociogoopaaDoorLFrs
import Derived.Test.YtjbppociogoopaaDoorGDr
import Derived.Deep.DeepCutAuto
import Derived.Deep.RegionHeld3
import Derived.Deep.RegionLaw
namespace Go.Proofs.YtjbppociogoopaaDoor
open Go.RowKit Go.Deep Go.Proofs.YtjbppociogoopaaDoor.Num

/-- The marks of one frame, from k on. -/
def markF (k : Int) : Fr := ⟨k, k + 1, k + 1 + 1, ⟨(markT (k + 1 + 1 + 1)).toArray⟩, (k + 1 + 1 + 1 + 1) % 3 == 0, k + 1 + 1 + 1 + 1 + 1, k + 1 + 1 + 1 + 1 + 1 + 1, k + 1 + 1 + 1 + 1 + 1 + 1 + 1, (k + 1 + 1 + 1 + 1 + 1 + 1 + 1 + 1) % 3 == 0⟩
/-- .. of n frames. -/
def marksF (k : Nat) : Nat → List Fr
  | 0 => []
  | n + 1 => markF (k : Int) :: marksF (k + 9) n
theorem marksF_len (n : Nat) : ∀ k, (marksF k n).length = n := by
  induction n with
  | zero => intro k; rfl
  | succ n ih => intro k; simp [marksF, ih]
theorem marksF_at (n : Nat) : ∀ k j (h : j < (marksF k n).length), (marksF k n)[j] = markF ((k + 9 * j : Nat) : Int) := by
  induction n with
  | zero => intro k j h; simp [marksF] at h
  | succ n ih =>
    intro k j h
    cases j with
    | zero => simp [marksF]
    | succ j =>
      have h2 := ih (k + 9) j (by simpa [marksF] using h)
      simp only [marksF, List.getElem_cons_succ]
      rw [h2]
      congr 1
      omega
theorem RowF.first3 {w : World} {base g n cap : Nat} {l : List Fr} (h : RowF w base g n cap l) (j : Nat) (hj : j < l.length) (y x : Fr) (hy : l[j] = y) :
    RowF (((w.setCell ⟨g, j * 9, none⟩ (.int .i64 x.kind)).setCell ⟨g, j * 9 + 1, none⟩ (.int .i64 x.stream)).setCell ⟨g, j * 9 + 2, none⟩ (.int .i64 x.offset)) base g n cap (l.set j { y with kind := x.kind, stream := x.stream, offset := x.offset }) := by
  have h0 := h.put j hj 0 (by omega) (.int .i64 x.kind) { y with kind := x.kind } (by rw [hy]; rfl)
  have h1 := h0.put j (by simpa using hj) 1 (by omega) (.int .i64 x.stream) { y with kind := x.kind, stream := x.stream } (by rw [List.getElem_set_self]; rfl)
  rw [List.set_set] at h1
  have h2 := h1.put j (by simpa using hj) 2 (by omega) (.int .i64 x.offset) { y with kind := x.kind, stream := x.stream, offset := x.offset } (by rw [List.getElem_set_self]; rfl)
  rw [List.set_set] at h2
  exact h2
theorem RowF.last6 {w : World} {base g n cap : Nat} {l : List Fr} {j : Nat} {y : Fr} (x : Fr) (h2 : RowF w base g n cap (l.set j { y with kind := x.kind, stream := x.stream, offset := x.offset })) (hj : j < l.length) :
    RowF ((((((w.setCell ⟨g, j * 9 + 3, none⟩ (.string x.data)).setCell ⟨g, j * 9 + 4, none⟩ (.bool x.fin)).setCell ⟨g, j * 9 + 5, none⟩ (.int .i64 x.code)).setCell ⟨g, j * 9 + 6, none⟩ (.int .i64 x.limit)).setCell ⟨g, j * 9 + 7, none⟩ (.int .i64 x.final)).setCell ⟨g, j * 9 + 8, none⟩ (.bool x.uni)) base g n cap (l.set j x) := by
  have h3 := h2.put j (by simpa using hj) 3 (by omega) (.string x.data) { y with kind := x.kind, stream := x.stream, offset := x.offset, data := x.data } (by rw [List.getElem_set_self]; rfl)
  rw [List.set_set] at h3
  have h4 := h3.put j (by simpa using hj) 4 (by omega) (.bool x.fin) { y with kind := x.kind, stream := x.stream, offset := x.offset, data := x.data, fin := x.fin } (by rw [List.getElem_set_self]; rfl)
  rw [List.set_set] at h4
  have h5 := h4.put j (by simpa using hj) 5 (by omega) (.int .i64 x.code) { y with kind := x.kind, stream := x.stream, offset := x.offset, data := x.data, fin := x.fin, code := x.code } (by rw [List.getElem_set_self]; rfl)
  rw [List.set_set] at h5
  have h6 := h5.put j (by simpa using hj) 6 (by omega) (.int .i64 x.limit) { y with kind := x.kind, stream := x.stream, offset := x.offset, data := x.data, fin := x.fin, code := x.code, limit := x.limit } (by rw [List.getElem_set_self]; rfl)
  rw [List.set_set] at h6
  have h7 := h6.put j (by simpa using hj) 7 (by omega) (.int .i64 x.final) { y with kind := x.kind, stream := x.stream, offset := x.offset, data := x.data, fin := x.fin, code := x.code, limit := x.limit, final := x.final } (by rw [List.getElem_set_self]; rfl)
  rw [List.set_set] at h7
  have h8 := h7.put j (by simpa using hj) 8 (by omega) (.bool x.uni) { y with kind := x.kind, stream := x.stream, offset := x.offset, data := x.data, fin := x.fin, code := x.code, limit := x.limit, final := x.final, uni := x.uni } (by rw [List.getElem_set_self]; rfl)
  rw [List.set_set] at h8
  exact h8
theorem mtext3 (q : Nat) (hq : q ≤ 999999991) (w : World) :
    Calls Tryd.prog 67 #[.int .i64 ((q : Int) + 1 + 1 + 1)] w fun e w' => e = .returned (.string ⟨(markT ((q : Int) + 1 + 1 + 1)).toArray⟩) ∧ Below w.heap.size w w' := by
  have h := mtext (q + 3) w (by omega)
  rw [show ((q + 3 : Nat) : Int) = (q : Int) + 1 + 1 + 1 by omega] at h
  exact h

set_option maxRecDepth 100000 in
set_option maxHeartbeats 2000000 in
/-- laws.markFrameS, on a row of the call's own. -/
theorem markrowF (l : List Fr) (base g n cap : Nat) (w : World) (ho : RowF w base g n cap l) (hn : n ≤ 10000000) :
    Calls Tryd.prog 39 #[.slice (some ⟨g, 0, none⟩) n cap, .int .i64 1] w fun e w' => e = .returned (.int .i64 ((1 + 9 * n : Nat) : Int)) ∧ RowF w' base g n cap (marksF 1 n) ∧ Below base w w' := by
  have HO := Lib.hid ho
  have hbg := ho.ge.1
  clear ho
  go_enter Tryd.func39, Tryd.ntmps39
  go_wp2
  go_loopw [1, 5] (fun kk i wr => ∃ (j q : Nat) (m : List Fr), j ≤ n ∧ i = .int .i64 j ∧ kk = .int .i64 (q : Int) ∧ q = 1 + 9 * j ∧ RowF wr base g n cap m ∧ m.take j = (marksF 1 n).take j ∧ Below base w wr) (fun _ i _ => n - (intOf i).toNat)
  case atStart => exact ⟨0, 1, l, Nat.zero_le _, rfl, rfl, rfl, HO.out, rfl, Below.refl _ _⟩
  case round =>
    obtain ⟨j, q, m, hj, rfl, rfl, hq, hown, ht, hb⟩ := hrel
    have HW := Lib.hid hown
    have HB := Lib.hid hb
    have HT := Lib.hid ht
    have HQ := Lib.hid hq
    clear hown hb ht
    by_cases hlt : j < n
    · have hjm : j < m.length := by rw [HW.out.1]; exact hlt
      have hjk : j < (marksF 1 n).length := by rw [marksF_len]; exact hlt
      have hq0 : q ≤ 1000000000 - 9 := by omega
      clear hq
      have hfz := HW.out.free
      obtain ⟨y, hy⟩ : ∃ y, m[j] = y := ⟨_, rfl⟩
      have q0 := HW.out.at j hjm 0 (by omega)
      have q1 := HW.out.at j hjm 1 (by omega)
      have q2 := HW.out.at j hjm 2 (by omega)
      rw [hy] at q0 q1 q2
      simp only [frL, List.getElem?_cons_zero, List.getElem?_cons_succ, Nat.add_zero] at q0 q1 q2
      go_upto_region 10 with fail
      have H3 := Lib.hid (HW.out.first3 j hjm y (markF q) hy)
      have HB3 := Lib.hid (((HB.out.setCell (p := ⟨g, j * 9, none⟩) hbg (.int .i64 (q : Int))).setCell (p := ⟨g, j * 9 + 1, none⟩) hbg (.int .i64 ((q : Int) + 1))).setCell (p := ⟨g, j * 9 + 2, none⟩) hbg (.int .i64 ((q : Int) + 1 + 1)))
      change Hid (RowF (((wr.setCell ⟨g, j * 9, none⟩ (.int .i64 (q : Int))).setCell ⟨g, j * 9 + 1, none⟩ (.int .i64 ((q : Int) + 1))).setCell ⟨g, j * 9 + 2, none⟩ (.int .i64 ((q : Int) + 1 + 1))) base g n cap _) at H3
      clear q0 q1 q2 hfz
      generalize ((wr.setCell ⟨g, j * 9, none⟩ (.int .i64 (q : Int))).setCell ⟨g, j * 9 + 1, none⟩ (.int .i64 ((q : Int) + 1))).setCell ⟨g, j * 9 + 2, none⟩ (.int .i64 ((q : Int) + 1 + 1)) = wa at *
      go_wp2_with fail
      refine (mtext3 q (by omega) wa).mono ?_
      rintro e wb ⟨rfl, hbb⟩
      have H4 := Lib.hid (H3.out.later hbb)
      have HB4 := Lib.hid (HB3.out.trans (hbb.mono (Nat.le_trans (Nat.le_trans hbg (Nat.le_of_lt H3.out.ge.2)) (Nat.le_refl _))))
      clear hbb
      have hjs : j < (m.set j { y with kind := (markF (q : Int)).kind, stream := (markF (q : Int)).stream, offset := (markF (q : Int)).offset }).length := by simpa using hjm
      have hfz := H4.out.free
      have q3 := H4.out.at j hjs 3 (by omega)
      have q4 := H4.out.at j hjs 4 (by omega)
      have q5 := H4.out.at j hjs 5 (by omega)
      have q6 := H4.out.at j hjs 6 (by omega)
      have q7 := H4.out.at j hjs 7 (by omega)
      have q8 := H4.out.at j hjs 8 (by omega)
      rw [List.getElem_set_self] at q3 q4 q5 q6 q7 q8
      simp only [frL, List.getElem?_cons_zero, List.getElem?_cons_succ] at q3 q4 q5 q6 q7 q8
      have HSM := Lib.hid (set_takeF (l := marksF 1 n) (m := m) (by rw [marksF_len]; exact HW.out.1) HT.out hjk (markF (q : Int)) (by rw [marksF_at, HQ.out]))
      clear hjs
      go_wp2
      go_roundw
      case rel =>
        refine ⟨j + 1, q + 9, _, by omega, by go_num, ?_, by have h := HQ.out; omega, H4.out.last6 (markF (q : Int)) hjm, HSM.out, ?_⟩
        · congr 1
        · exact (((((HB4.out.setCell (p := ⟨_, _, _⟩) hbg _).setCell (p := ⟨_, _, _⟩) hbg _).setCell (p := ⟨_, _, _⟩) hbg _).setCell (p := ⟨_, _, _⟩) hbg _).setCell (p := ⟨_, _, _⟩) hbg _).setCell (p := ⟨_, _, _⟩) hbg _
      case measure => simp [intOf]; omega
    · obtain rfl : j = n := by omega
      have HE : Hid (m = marksF 1 j) := Lib.hid (by
        have h := HT.out
        rw [List.take_of_length_le (by rw [HW.out.1]; exact Nat.le_refl _), List.take_of_length_le (by rw [marksF_len]; exact Nat.le_refl _)] at h
        exact h)
      rw [HE.out] at HW
      subst hq
      go_wp2
      go_ret
      exact ⟨rfl, HW.out, HB.out⟩
end Go.Proofs.YtjbppociogoopaaDoor
