/-
  What spec.RemoveRange returns.
-/
import Derived.Test.YtjohbfdifdjldacSRng4
import Derived.Test.YtjohbfdifdjldacSRng3
namespace Go.Proofs.Ytjohbfdifdjldac
open Go.RowKit Go.Deep Go.Proofs.Ytjohbfdifdjldac.Num

namespace Num
theorem remR_step (l : List Rg) (r : Rg) (j : Nat) (h : j < l.length) : remR r (l.take (j + 1)) = remR r (l.take j) ++ cutR r l[j] := by
  unfold remR
  rw [List.take_succ_eq_append_getElem h, List.flatMap_append]
  congr 1
  simp
theorem remR_len (r : Rg) (l : List Rg) : (remR r l).length ≤ 2 * l.length := by
  induction l with
  | nil => simp [remR]
  | cons x l ih =>
    have e : remR r (x :: l) = cutR r x ++ remR r l := rfl
    have h2 : (cutR r x).length ≤ 2 := by unfold cutR; split <;> split <;> simp
    rw [e, List.length_append, List.length_cons]
    omega
end Num
set_option maxRecDepth 100000 in
set_option maxHeartbeats 1000000 in
/-- spec.RemoveRange -/
theorem srem (l : List Rg) (r : Rg) (A : Option Addr) (cap B : Nat) (w : World) (hB : B ≤ w.heap.size) (hr : Rgs w B A l) (hn : l.length ≤ 1000000000) :
    Calls Try.prog 29 #[.slice A l.length cap, rgV r] w fun e w' => ∃ v, e = .returned v ∧ OwnR w' w.heap.size v (if okR (-1) l ∧ fineR r then remR r l else l) ∧ Below w.heap.size w w' := by
  have hr1 : Rgs (w.alloc (.cells #[.int .i64 r.1, .int .i64 r.2] 56)) B A l := hr.keep fun k hk => heap_alloc_old w _ (by omega)
  have hbx := (Below.refl w.heap.size w).alloc (Nat.le_refl _) (.cells #[.int .i64 r.1, .int .i64 r.2] 56)
  have hrc := RCell.box w r 56
  have hsz : (w.alloc (.cells #[.int .i64 r.1, .int .i64 r.2] 56)).heap.size = w.heap.size + 1 := by simp
  generalize hw1 : w.alloc (.cells #[.int .i64 r.1, .int .i64 r.2] 56) = w1 at *
  have HW1 := Lib.hid hw1
  have HC := Lib.hid (sisr l A cap B w1 (by omega) hr1 hn)
  have HF := Lib.hid (sfine r)
  have HR := Lib.hid hr1
  have HBX := Lib.hid hbx
  have HRC := Lib.hid hrc
  clear hr1 hr hbx hrc
  by_cases hk : okR (-1) l
  · rw [decide_eq_true hk] at HC
    by_cases hf : fineR r
    · rw [decide_eq_true hf] at HF
      rw [if_pos ⟨hk, hf⟩]
      clear hk hf
      go_enter Try.func29, Try.ntmps29
      go_wp2_with fail
      refine HC.out.mono ?_
      rintro e w2 ⟨rfl, hb2⟩
      have HB2 := Lib.hid hb2
      obtain ⟨rc1, rc2⟩ := HRC.out.below hb2 (by omega)
      clear hb2
      go_wp2_with fail
      refine (HF.out _).mono ?_
      rintro e w3 ⟨rfl, hb3⟩
      have HB3 := Lib.hid (HB2.out.trans (hb3.mono HB2.out.size))
      clear hb3 rc1 rc2
      have HB4 := Lib.hid (HB3.out.alloc HB3.out.size (.cells #[] 56))
      have HO4 := Lib.hid (OwnR.lit w3 w1.heap.size 0 #[] HB3.out.size (by decide) rfl)
      go_wp2
      go_loopw [5, 6] (fun v i wr => ∃ j : Nat, j ≤ l.length ∧ i = .int .i64 j ∧ OwnR wr w1.heap.size v (remR r (l.take j)) ∧ Below w1.heap.size w1 wr) (fun _ i _ => l.length - (intOf i).toNat)
      case atStart => exact ⟨0, Nat.zero_le _, rfl, HO4.out, HB4.out⟩
      case round =>
        obtain ⟨j, hj, rfl, ho, hb⟩ := hrel
        have HO := Lib.hid ho
        have HB := Lib.hid hb
        clear ho hb
        by_cases hlt : j < l.length
        · have HRW := Lib.hid (HR.out.below (by omega) HB.out)
          obtain ⟨rc1, rc2⟩ := HRC.out.below HB.out (by omega)
          obtain ⟨b, off, rfl, hbB, c1, c2⟩ := HRW.out j hlt
          have hst := remR_step l r j hlt
          generalize hx : l[j] = x at *
          obtain ⟨m, hmin⟩ : ∃ m : Int, (if r.1 < x.2 then r.1 else x.2) = m := ⟨_, rfl⟩
          obtain ⟨M, hmax⟩ : ∃ M : Int, (if x.1 < r.2 then r.2 else x.1) = M := ⟨_, rfl⟩
          have hS : ∀ W, Below w1.heap.size wr W → W.cell? ⟨b, off + j * 2, none⟩ = some (.int .i64 x.1) ∧ W.cell? ⟨b, off + j * 2 + 1, none⟩ = some (.int .i64 x.2) ∧ W.cell? ⟨w.heap.size, 0, none⟩ = some (.int .i64 r.1) ∧ W.cell? ⟨w.heap.size, 1, none⟩ = some (.int .i64 r.2) := fun W h =>
            ⟨(h.cell (by show b < _; omega)).trans c1, (h.cell (by show b < _; omega)).trans c2, (h.cell (by show w.heap.size < _; omega)).trans rc1, (h.cell (by show w.heap.size < _; omega)).trans rc2⟩
          have hwz : w1.heap.size ≤ wr.heap.size := HB.out.size
          have hln := remR_len r (l.take j)
          have hlt2 : (l.take j).length ≤ j := List.length_take_le _ _
          have hlen : (remR r (l.take j)).length + 1 ≤ 1000000000000 := by omega
          have hcut : cutR r x = (if x.1 < m then [(x.1, m)] else []) ++ (if M < x.2 then [(M, x.2)] else []) := by
            have e1 : min x.2 r.1 = m := by rw [← hmin]; split <;> omega
            have e2 : max x.1 r.2 = M := by rw [← hmax]; split <;> omega
            unfold cutR
            rw [e1, e2]
          by_cases h1 : x.1 < m
          · have hd1 : decide (x.1 < m) = true := decide_eq_true h1
            go_wp2
            go_quiet (fail)
            go_wp2
            have hsz2 : w1.heap.size ≤ ((wr.drewN nq).drew.alloc (.cells #[.int .i64 x.1, .int .i64 m] 56)).heap.size := by simp; omega
            go_region_held3 (fun W => W.cell? ⟨b, off + j * 2, none⟩ = some (.int .i64 x.1) ∧ W.cell? ⟨b, off + j * 2 + 1, none⟩ = some (.int .i64 x.2) ∧ W.cell? ⟨w.heap.size, 0, none⟩ = some (.int .i64 r.1) ∧ W.cell? ⟨w.heap.size, 1, none⟩ = some (.int .i64 r.2)) (first | exact hS _ (belowR_drewN (Below.refl _ _) _).drew | exact hS _ ((belowR_drewN (Below.refl _ _) _).drew.alloc hwz _) | exact hS _ (((belowR_drewN (Below.refl _ _) _).drew.alloc hwz _).trans hbel)) (first | (refine step_append_rgs _ rfl (.tmp 38) (.tmp 53) rfl w1.heap.size _ (remR r (l.take j)) rfl (OwnR.alloc (w := (wr.drewN nq).drew) HO.out _) wr.heap.size 0 1 1 _ [(x.1, m)] rfl rfl (rgs_one (wr.drewN nq).drew (x.1, m) _) hlen hsz2 ?_; intro v' w' hown' hbel))
            have HBW := Lib.hid (((belowR_drewN HB.out nq).drew.alloc hwz (.cells #[.int .i64 x.1, .int .i64 m] 56)).trans hbel)
            have HOW := Lib.hid hown'
            obtain ⟨p1, p2, p3, p4⟩ := hS w' (((belowR_drewN (Below.refl _ wr) nq).drew.alloc hwz _).trans hbel)
            clear hbel hown' hsz2
            have hlen2 : (remR r (l.take j) ++ [(x.1, m)]).length + 1 ≤ 1000000000000 := by first | omega | (simp only [List.length_append, List.length_cons, List.length_nil]; omega)
            have hSW : ∀ W2, Below w1.heap.size w' W2 → W2.cell? ⟨b, off + j * 2, none⟩ = some (.int .i64 x.1) ∧ W2.cell? ⟨b, off + j * 2 + 1, none⟩ = some (.int .i64 x.2) ∧ W2.cell? ⟨w.heap.size, 0, none⟩ = some (.int .i64 r.1) ∧ W2.cell? ⟨w.heap.size, 1, none⟩ = some (.int .i64 r.2) := fun W2 h =>
              ⟨(h.cell (by show b < _; omega)).trans p1, (h.cell (by show b < _; omega)).trans p2, (h.cell (by show w.heap.size < _; omega)).trans p3, (h.cell (by show w.heap.size < _; omega)).trans p4⟩
            have hwz2 : w1.heap.size ≤ w'.heap.size := HBW.out.size
            clear hS hwz c1 c2 rc1 rc2 HB HO HRW
            by_cases h2 : M < x.2
            · have hd2 : decide (M < x.2) = true := decide_eq_true h2
              have HE : Hid (remR r (l.take (j + 1)) = remR r (l.take j) ++ [(x.1, m)] ++ [(M, x.2)]) := Lib.hid (by rw [hst, hcut, if_pos (show x.1 < m by omega), if_pos h2]; simp)
              clear hst hcut h1 h2
              go_wp2
              go_quiet (fail)
              go_wp2
              have hsz3 : w1.heap.size ≤ ((w'.drewN nq).drew.alloc (.cells #[.int .i64 M, .int .i64 x.2] 56)).heap.size := by simp; omega
              go_region_held3 (fun W => W.cell? ⟨b, off + j * 2, none⟩ = some (.int .i64 x.1) ∧ W.cell? ⟨b, off + j * 2 + 1, none⟩ = some (.int .i64 x.2) ∧ W.cell? ⟨w.heap.size, 0, none⟩ = some (.int .i64 r.1) ∧ W.cell? ⟨w.heap.size, 1, none⟩ = some (.int .i64 r.2)) (first | exact hSW _ (belowR_drewN (Below.refl _ _) _).drew | exact hSW _ ((belowR_drewN (Below.refl _ _) _).drew.alloc hwz2 _) | exact hSW _ (((belowR_drewN (Below.refl _ _) _).drew.alloc hwz2 _).trans hbel2)) (first | (refine step_append_rgs _ rfl (.tmp 69) (.tmp 84) rfl w1.heap.size _ (remR r (l.take j) ++ [(x.1, m)]) rfl (OwnR.alloc (w := (w'.drewN nq).drew) HOW.out _) w'.heap.size 0 1 1 _ [(M, x.2)] rfl rfl (rgs_one (w'.drewN nq).drew (M, x.2) _) hlen2 hsz3 ?_; intro v2 w2' hown2 hbel2))
              have HB2' := Lib.hid (((belowR_drewN HBW.out nq).drew.alloc hwz2 (.cells #[.int .i64 M, .int .i64 x.2] 56)).trans hbel2)
              have HO2' := Lib.hid hown2
              clear hbel2 hown2
              go_wp2
              go_roundw
              case rel => exact ⟨j + 1, hlt, by go_num, by rw [HE.out]; exact HO2'.out, HB2'.out⟩
              case measure => simp [intOf]; omega
            · have hd2 : decide (M < x.2) = false := decide_eq_false h2
              have HE : Hid (remR r (l.take (j + 1)) = remR r (l.take j) ++ [(x.1, m)]) := Lib.hid (by rw [hst, hcut, if_pos (show x.1 < m by omega), if_neg h2]; simp)
              clear hst hcut h1 h2
              go_wp2
              go_quiet (fail)
              go_wp2
              go_roundw
              case rel => exact ⟨j + 1, hlt, by go_num, by rw [HE.out]; exact HOW.out, belowR_drewN HBW.out _⟩
              case measure => simp [intOf]; omega
          · have hd1 : decide (x.1 < m) = false := decide_eq_false h1
            go_wp2
            go_quiet (fail)
            have HBW := Lib.hid (belowR_drewN HB.out nq)
            have HOW : Hid (OwnR (wr.drewN nq) w1.heap.size _ (remR r (l.take j))) := Lib.hid HO.out
            obtain ⟨p1, p2, p3, p4⟩ := hS _ (belowR_drewN (Below.refl _ wr) nq)
            generalize wr.drewN nq = wq at *
            go_wp2
            have hlen2 : (remR r (l.take j)).length + 1 ≤ 1000000000000 := by first | omega | (simp only [List.length_append, List.length_cons, List.length_nil]; omega)
            have hSW : ∀ W2, Below w1.heap.size wq W2 → W2.cell? ⟨b, off + j * 2, none⟩ = some (.int .i64 x.1) ∧ W2.cell? ⟨b, off + j * 2 + 1, none⟩ = some (.int .i64 x.2) ∧ W2.cell? ⟨w.heap.size, 0, none⟩ = some (.int .i64 r.1) ∧ W2.cell? ⟨w.heap.size, 1, none⟩ = some (.int .i64 r.2) := fun W2 h =>
              ⟨(h.cell (by show b < _; omega)).trans p1, (h.cell (by show b < _; omega)).trans p2, (h.cell (by show w.heap.size < _; omega)).trans p3, (h.cell (by show w.heap.size < _; omega)).trans p4⟩
            have hwz2 : w1.heap.size ≤ wq.heap.size := HBW.out.size
            clear hS hwz c1 c2 rc1 rc2 HB HO HRW
            by_cases h2 : M < x.2
            · have hd2 : decide (M < x.2) = true := decide_eq_true h2
              have HE : Hid (remR r (l.take (j + 1)) = remR r (l.take j) ++ [(M, x.2)]) := Lib.hid (by rw [hst, hcut, if_neg (show ¬ x.1 < m by omega), if_pos h2]; simp)
              clear hst hcut h1 h2
              go_wp2
              go_quiet (fail)
              go_wp2
              have hsz3 : w1.heap.size ≤ ((wq.drewN nq).drew.alloc (.cells #[.int .i64 M, .int .i64 x.2] 56)).heap.size := by simp; omega
              go_region_held3 (fun W => W.cell? ⟨b, off + j * 2, none⟩ = some (.int .i64 x.1) ∧ W.cell? ⟨b, off + j * 2 + 1, none⟩ = some (.int .i64 x.2) ∧ W.cell? ⟨w.heap.size, 0, none⟩ = some (.int .i64 r.1) ∧ W.cell? ⟨w.heap.size, 1, none⟩ = some (.int .i64 r.2)) (first | exact hSW _ (belowR_drewN (Below.refl _ _) _).drew | exact hSW _ ((belowR_drewN (Below.refl _ _) _).drew.alloc hwz2 _) | exact hSW _ (((belowR_drewN (Below.refl _ _) _).drew.alloc hwz2 _).trans hbel2)) (first | (refine step_append_rgs _ rfl (.tmp 69) (.tmp 84) rfl w1.heap.size _ (remR r (l.take j)) rfl (OwnR.alloc (w := (wq.drewN nq).drew) HOW.out _) wq.heap.size 0 1 1 _ [(M, x.2)] rfl rfl (rgs_one (wq.drewN nq).drew (M, x.2) _) hlen2 hsz3 ?_; intro v2 w2' hown2 hbel2))
              have HB2' := Lib.hid (((belowR_drewN HBW.out nq).drew.alloc hwz2 (.cells #[.int .i64 M, .int .i64 x.2] 56)).trans hbel2)
              have HO2' := Lib.hid hown2
              clear hbel2 hown2
              go_wp2
              go_roundw
              case rel => exact ⟨j + 1, hlt, by go_num, by rw [HE.out]; exact HO2'.out, HB2'.out⟩
              case measure => simp [intOf]; omega
            · have hd2 : decide (M < x.2) = false := decide_eq_false h2
              have HE : Hid (remR r (l.take (j + 1)) = remR r (l.take j)) := Lib.hid (by rw [hst, hcut, if_neg (show ¬ x.1 < m by omega), if_neg h2]; simp)
              clear hst hcut h1 h2
              go_wp2
              go_quiet (fail)
              go_wp2
              go_roundw
              case rel => exact ⟨j + 1, hlt, by go_num, by rw [HE.out]; exact HOW.out, belowR_drewN HBW.out _⟩
              case measure => simp [intOf]; omega
        · obtain rfl : j = l.length := by omega
          have e : l.take l.length = l := List.take_of_length_le (Nat.le_refl _)
          rw [e] at HO
          have HBw := Lib.hid (HBX.out.trans (HB.out.mono (by omega)))
          go_wp2
          go_ret
          exact ⟨_, rfl, own_weaken HO.out (by omega), HBw.out⟩
    · rw [decide_eq_false hf] at HF
      rw [if_neg (fun h => hf h.2)]
      clear hk hf
      go_enter Try.func29, Try.ntmps29
      go_wp2_with fail
      refine HC.out.mono ?_
      rintro e w2 ⟨rfl, hb2⟩
      have HB2 := Lib.hid hb2
      obtain ⟨rc1, rc2⟩ := HRC.out.below hb2 (by omega)
      clear hb2
      go_wp2_with fail
      refine (HF.out _).mono ?_
      rintro e w3 ⟨rfl, hb3⟩
      have HB3 := Lib.hid (HB2.out.trans (hb3.mono HB2.out.size))
      clear hb3 rc1 rc2
      have HR3 := Lib.hid (HR.out.below (by omega) HB3.out)
      have hB3 : B ≤ w3.heap.size := by have := HB3.out.size; omega
      have hw3 : w.heap.size ≤ w3.heap.size := by have := HB3.out.size; omega
      go_wp2_with fail
      refine (scopy l A cap B w3 hB3 HR3.out hn).mono ?_
      rintro e w4 ⟨v, rfl, ho4, hb4⟩
      have HO4 := Lib.hid ho4
      have HB4 := Lib.hid (HBX.out.trans ((HB3.out.mono (by omega)).trans (hb4.mono hw3)))
      clear ho4 hb4
      go_wp2
      go_ret
      exact ⟨_, rfl, own_weaken HO4.out hw3, HB4.out⟩
  · rw [decide_eq_false hk] at HC
    rw [if_neg (fun h => hk h.1)]
    clear hk
    go_enter Try.func29, Try.ntmps29
    go_wp2_with fail
    refine HC.out.mono ?_
    rintro e w3 ⟨rfl, hb3⟩
    have HB3 := Lib.hid hb3
    clear hb3
    have HR3 := Lib.hid (HR.out.below (by omega) HB3.out)
    have hB3 : B ≤ w3.heap.size := by have := HB3.out.size; omega
    have hw3 : w.heap.size ≤ w3.heap.size := by have := HB3.out.size; omega
    go_wp2_with fail
    refine (scopy l A cap B w3 hB3 HR3.out hn).mono ?_
    rintro e w4 ⟨v, rfl, ho4, hb4⟩
    have HO4 := Lib.hid ho4
    have HB4 := Lib.hid (HBX.out.trans ((HB3.out.mono (by omega)).trans (hb4.mono hw3)))
    clear ho4 hb4
    go_wp2
    go_ret
    exact ⟨_, rfl, own_weaken HO4.out hw3, HB4.out⟩
end Go.Proofs.Ytjohbfdifdjldac
