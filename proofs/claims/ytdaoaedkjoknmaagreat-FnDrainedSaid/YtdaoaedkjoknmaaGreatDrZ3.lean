/-
  Contracts and lemmas for the law on draining.
-/
import Derived.Test.YtdaoaedkjoknmaaGreatDrZ0
import Derived.Test.YtdaoaedkjoknmaaGreatDrZ2
import Derived.Deep.QuietTactic
import Derived.BigQuiet
import Derived.Deep.RegionHeld3
import Derived.Deep.RegionLaw
set_option maxRecDepth 1000000
set_option maxHeartbeats 8000000
namespace Go.Proofs.YtdaoaedkjoknmaaGreat
open Go.RowKit Go.Deep Go.Proofs.YtdaoaedkjoknmaaGreat.Num

theorem sfine (x : Rg) (w : World) :
    Calls Tryz.prog 96 #[rgV x] w fun e w' => e = .returned (.bool (decide (fineR x))) ∧ Below w.heap.size w w' := by
  by_cases h : fineR x
  · rw [decide_eq_true h]
    obtain ⟨h1, h2, h3⟩ := h
    go_enter Tryz.func96, Tryz.ntmps96
    go_wp2
    go_ret
    exact ⟨rfl, (Below.refl _ _).alloc (Nat.le_refl _) _⟩
  · rw [decide_eq_false h]
    by_cases h1 : 0 ≤ x.1
    · by_cases h2 : x.1 < x.2
      · have h3 : decide (x.2 ≤ 4611686018427387903) = false := decide_eq_false fun h3 => h ⟨h1, h2, h3⟩
        go_enter Tryz.func96, Tryz.ntmps96
        go_wp2
        go_ret
        exact ⟨by first | rfl | rw [h3]; rfl, (Below.refl _ _).alloc (Nat.le_refl _) _⟩
      · have h3 : decide (x.1 < x.2) = false := decide_eq_false h2
        go_enter Tryz.func96, Tryz.ntmps96
        go_wp2
        go_ret
        exact ⟨by first | rfl | rw [h3]; rfl, (Below.refl _ _).alloc (Nat.le_refl _) _⟩
    · have h3 : decide (0 ≤ x.1) = false := decide_eq_false h1
      go_enter Tryz.func96, Tryz.ntmps96
      go_wp2
      go_ret
      exact ⟨by first | rfl | rw [h3]; rfl, (Below.refl _ _).alloc (Nat.le_refl _) _⟩

def HeldR (w : World) (b o : Nat) (x : Rg) (o' : Nat) (y : Int) (w' : World) : Prop := w'.cell? ⟨b, o, none⟩ = some (.int .i64 x.1) ∧ w'.cell? ⟨b, o + 1, none⟩ = some (.int .i64 x.2) ∧ w'.cell? ⟨b, o' + 1, none⟩ = some (.int .i64 y) ∧ Below w.heap.size w w'

theorem sisr (l : List Rg) (A : Option Addr) (cap B : Nat) (w : World) (hB : B ≤ w.heap.size) (hr : Rgs w B A l) (hn : l.length ≤ 1000000000) :
    Calls Tryz.prog 68 #[.slice A l.length cap] w fun e w' => e = .returned (.bool (decide (okR (-1) l))) ∧ Below w.heap.size w w' := by
  have HR := LH hr
  clear hr
  go_enter Tryz.func68, Tryz.ntmps68
  go_wp2
  go_loopw [3] (fun i wr => ∃ j : Nat, j ≤ l.length ∧ i = .int .i64 j ∧ okR (-1) (l.take j) ∧ Below w.heap.size w wr) (fun i _ => l.length - (intOf i).toNat)
  case atStart => exact ⟨0, Nat.zero_le _, rfl, trivial, Below.refl _ _⟩
  case round =>
    obtain ⟨j, hj, rfl, hp, hb⟩ := hrel
    have HP := LH hp
    have HB := LH hb
    clear hp hb
    by_cases hlt : j < l.length
    · have HC := LH (sfine l[j])
      have HRW := LH (HR.out.below hB HB.out)
      obtain ⟨b, off, rfl, hbB, c1, c2⟩ := HRW.out j hlt
      have hbw : b < wr.heap.size := by have := HB.out.size; omega
      by_cases hf : fineR l[j]
      · rw [decide_eq_true hf] at HC
        have HFI := LH hf
        clear hf
        by_cases h0 : j = 0
        · have hd : decide (0 < j) = false := decide_eq_false (by omega)
          have HK : Hid (okR (-1) (l.take (j + 1))) := LH (by subst h0; exact (okR.at_zero l hlt).2 HFI.out)
          clear h0
          have hS0 : HeldR w b (off + j * 2) l[j] (off + j * 2) l[j].2 wr.drew := ⟨c1, c2, c2, HB.out.drew⟩
          have hS1 : ∀ w1, Below wr.drew.heap.size wr.drew w1 → HeldR w b (off + j * 2) l[j] (off + j * 2) l[j].2 w1 := fun w1 h =>
            ⟨(h.cell hbw).trans c1, (h.cell hbw).trans c2, (h.cell hbw).trans c2, HB.out.drew.trans (h.mono HB.out.size)⟩
          go_wp2
          refine wp_region_held_drew (S := HeldR w b (off + j * 2) l[j] (off + j * 2) l[j].2) (by kernel_rfl) hS0 (fun hHeld => ?_)
          refine tK 0 (v := ?_) rfl hHeld ?_ ?_
          rotate_left
          · (intro wx hSx; obtain ⟨hs1, hs2, hs3, _⟩ := hSx; go_simp; (try with_reducible rfl))
          (try simp only [Act.put, zA, zC, zD, zE, zF])
          refine tK 1 (v := ?_) rfl hHeld ?_ ?_
          rotate_left
          · (intro wx hSx; obtain ⟨hs1, hs2, hs3, _⟩ := hSx; go_simp; (try with_reducible rfl))
          (try simp only [Act.put, zA, zB, zC, zD, zE, zF])
          refine tK 2 (v := ?_) rfl hHeld ?_ ?_
          rotate_left
          · (intro wx hSx; obtain ⟨hs1, hs2, hs3, _⟩ := hSx; go_simp; (try with_reducible rfl))
          (try simp only [Act.put, zA, zB, zC, zD, zE, zF])
          refine tK 3 (v := ?_) rfl hHeld ?_ ?_
          rotate_left
          · (intro wx hSx; obtain ⟨hs1, hs2, hs3, _⟩ := hSx; go_simp; (try with_reducible rfl))
          (try simp only [Act.put, zA, zB, zC, zD, zE, zF])
          refine wpAnyH_ready (rs := [4]) (by kernel_rfl) (by simp) ?_
          refine AllReadyH.cons rfl (fun K hK => ?_) AllReadyH.nil
          rw [if_pos (by rfl)]
          go_simp
          refine (HC.out _).mono ?_
          rintro e w1 ⟨rfl, hb1⟩
          (try simp only [])
          refine hK.out _ _ (hS1 w1 hb1) (fun hHeld => ?_)
          clear hK K
          (try simp only [Act.put, zA, zB, zC, zD, zE, zF])
          refine tK 5 (v := ?_) rfl hHeld ?_ ?_
          rotate_left
          · (intro wx hSx; obtain ⟨hs1, hs2, hs3, _⟩ := hSx; go_simp; (try with_reducible rfl))
          (try simp only [Act.put, zA, zB, zC, zD, zE, zF])
          refine tK 6 (v := ?_) rfl hHeld ?_ ?_
          rotate_left
          · (intro wx hSx; obtain ⟨hs1, hs2, hs3, _⟩ := hSx; go_simp; (try with_reducible rfl))
          (try simp only [Act.put, zA, zB, zC, zD, zE, zF])
          refine tK 7 (v := ?_) rfl hHeld ?_ ?_
          rotate_left
          · (intro wx hSx; obtain ⟨hs1, hs2, hs3, _⟩ := hSx; go_simp; (try with_reducible rfl))
          (try simp only [Act.put, zA, zB, zC, zD, zE, zF])
          refine tK 8 (v := ?_) rfl hHeld ?_ ?_
          rotate_left
          · (intro wx hSx; obtain ⟨hs1, hs2, hs3, _⟩ := hSx; go_simp; (try with_reducible rfl))
          (try simp only [Act.put, zA, zB, zC, zD, zE, zF])
          refine tK 9 (v := ?_) rfl hHeld ?_ ?_
          rotate_left
          · (intro wx hSx; obtain ⟨hs1, hs2, hs3, _⟩ := hSx; go_simp; (try with_reducible rfl))
          (try simp only [Act.put, zA, zB, zC, zD, zE, zF])
          refine tN 10 rfl hHeld ?_
          (try simp only [Act.put, zA, zB, zC, zD, zE, zF])
          refine tN 11 rfl hHeld ?_
          (try simp only [Act.put, zA, zB, zC, zD, zE, zF])
          refine tN 12 rfl hHeld ?_
          (try simp only [Act.put, zA, zB, zC, zD, zE, zF])
          refine tN 13 rfl hHeld ?_
          (try simp only [Act.put, zA, zB, zC, zD, zE, zF])
          refine tN 14 rfl hHeld ?_
          (try simp only [Act.put, zA, zB, zC, zD, zE, zF])
          refine tN 15 rfl hHeld ?_
          (try simp only [Act.put, zA, zB, zC, zD, zE, zF])
          refine tN 16 rfl hHeld ?_
          (try simp only [Act.put, zA, zB, zC, zD, zE, zF])
          refine tN 17 rfl hHeld ?_
          (try simp only [Act.put, zA, zB, zC, zD, zE, zF])
          refine tN 18 rfl hHeld ?_
          (try simp only [Act.put, zA, zB, zC, zD, zE, zF])
          refine tN 19 rfl hHeld ?_
          (try simp only [Act.put, zA, zB, zC, zD, zE, zF])
          refine tN 20 rfl hHeld ?_
          (try simp only [Act.put, zA, zB, zC, zD, zE, zF])
          refine tN 21 rfl hHeld ?_
          (try simp only [Act.put, zA, zB, zC, zD, zE, zF])
          refine tK 22 (v := ?_) rfl hHeld ?_ ?_
          rotate_left
          · (intro wx hSx; obtain ⟨hs1, hs2, hs3, _⟩ := hSx; go_simp; (try with_reducible rfl))
          (try simp only [Act.put, zA, zB, zC, zD, zE, zF])
          refine tK 23 (v := ?_) rfl hHeld ?_ ?_
          rotate_left
          · (intro wx hSx; obtain ⟨hs1, hs2, hs3, _⟩ := hSx; go_simp; (try with_reducible rfl))
          (try simp only [Act.put, zA, zB, zC, zD, zE, zF])
          refine wpAnyH_done (by kernel_rfl) ?_ _
          have HB1 := LH (HB.out.drew.trans (hb1.mono HB.out.size))
          clear hb1 hHeld hS0 hS1
          go_wp2
          go_roundw
          case rel => exact ⟨j + 1, hlt, by go_num, HK.out, HB1.out⟩
          case measure => simp [intOf]; omega
        · obtain ⟨i, hi⟩ : ∃ i, j = i + 1 := ⟨j - 1, by omega⟩
          have hil : i < l.length := by omega
          have hd : decide (0 < j) = true := decide_eq_true (by omega)
          have hw : IntKind.i64.wrap ((j : Int) - 1) = (i : Int) := by rw [IntKind.wrap_i64]; omega
          have c3 : wr.cell? ⟨b, off + i * 2 + 1, none⟩ = some (.int .i64 l[i].2) := by
            obtain ⟨b', off', hA, _, _, h2⟩ := HRW.out i hil
            have hA' := Option.some.inj hA
            injection hA' with e1 e2 _
            subst e1
            subst e2
            exact h2
          by_cases hg : l[j].1 ≤ l[i].2
          · have hdg : decide (l[j].1 ≤ l[i].2) = true := decide_eq_true hg
            have HN : Hid (¬ okR (-1) l) := LH (okR.not_all (i := j + 1) fun h => by
              subst hi
              have := (okR.at_succ l i hlt HP.out).1 h
              omega)
            clear hg h0 hi
            have hS0 : HeldR w b (off + j * 2) l[j] (off + i * 2) l[i].2 wr.drew := ⟨c1, c2, c3, HB.out.drew⟩
            have hS1 : ∀ w1, Below wr.drew.heap.size wr.drew w1 → HeldR w b (off + j * 2) l[j] (off + i * 2) l[i].2 w1 := fun w1 h =>
              ⟨(h.cell hbw).trans c1, (h.cell hbw).trans c2, (h.cell hbw).trans c3, HB.out.drew.trans (h.mono HB.out.size)⟩
            go_wp2
            refine wp_region_held_drew (S := HeldR w b (off + j * 2) l[j] (off + i * 2) l[i].2) (by kernel_rfl) hS0 (fun hHeld => ?_)
            refine tK 0 (v := ?_) rfl hHeld ?_ ?_
            rotate_left
            · (intro wx hSx; obtain ⟨hs1, hs2, hs3, _⟩ := hSx; go_simp; (try with_reducible rfl))
            (try simp only [Act.put, zA, zC, zD, zE, zF])
            refine tK 1 (v := ?_) rfl hHeld ?_ ?_
            rotate_left
            · (intro wx hSx; obtain ⟨hs1, hs2, hs3, _⟩ := hSx; go_simp; (try with_reducible rfl))
            (try simp only [Act.put, zA, zB, zC, zD, zE, zF])
            refine tK 2 (v := ?_) rfl hHeld ?_ ?_
            rotate_left
            · (intro wx hSx; obtain ⟨hs1, hs2, hs3, _⟩ := hSx; go_simp; (try with_reducible rfl))
            (try simp only [Act.put, zA, zB, zC, zD, zE, zF])
            refine tK 3 (v := ?_) rfl hHeld ?_ ?_
            rotate_left
            · (intro wx hSx; obtain ⟨hs1, hs2, hs3, _⟩ := hSx; go_simp; (try with_reducible rfl))
            (try simp only [Act.put, zA, zB, zC, zD, zE, zF])
            refine wpAnyH_ready (rs := [4]) (by kernel_rfl) (by simp) ?_
            refine AllReadyH.cons rfl (fun K hK => ?_) AllReadyH.nil
            rw [if_pos (by rfl)]
            go_simp
            refine (HC.out _).mono ?_
            rintro e w1 ⟨rfl, hb1⟩
            (try simp only [])
            refine hK.out _ _ (hS1 w1 hb1) (fun hHeld => ?_)
            clear hK K
            (try simp only [Act.put, zA, zB, zC, zD, zE, zF])
            refine tK 5 (v := ?_) rfl hHeld ?_ ?_
            rotate_left
            · (intro wx hSx; obtain ⟨hs1, hs2, hs3, _⟩ := hSx; go_simp; (try with_reducible rfl))
            (try simp only [Act.put, zA, zB, zC, zD, zE, zF])
            refine tK 6 (v := ?_) rfl hHeld ?_ ?_
            rotate_left
            · (intro wx hSx; obtain ⟨hs1, hs2, hs3, _⟩ := hSx; go_simp; (try with_reducible rfl))
            (try simp only [Act.put, zA, zB, zC, zD, zE, zF])
            refine tK 7 (v := ?_) rfl hHeld ?_ ?_
            rotate_left
            · (intro wx hSx; obtain ⟨hs1, hs2, hs3, _⟩ := hSx; go_simp; (try with_reducible rfl))
            (try simp only [Act.put, zA, zB, zC, zD, zE, zF])
            refine tK 8 (v := ?_) rfl hHeld ?_ ?_
            rotate_left
            · (intro wx hSx; obtain ⟨hs1, hs2, hs3, _⟩ := hSx; go_simp; (try with_reducible rfl))
            (try simp only [Act.put, zA, zB, zC, zD, zE, zF])
            refine tK 9 (v := ?_) rfl hHeld ?_ ?_
            rotate_left
            · (intro wx hSx; obtain ⟨hs1, hs2, hs3, _⟩ := hSx; go_simp; (try with_reducible rfl))
            (try simp only [Act.put, zA, zB, zC, zD, zE, zF])
            refine tK 10 (v := ?_) rfl hHeld ?_ ?_
            rotate_left
            · (intro wx hSx; obtain ⟨hs1, hs2, hs3, _⟩ := hSx; go_simp; (try with_reducible rfl))
            (try simp only [Act.put, zA, zB, zC, zD, zE, zF])
            refine tK 11 (v := ?_) rfl hHeld ?_ ?_
            rotate_left
            · (intro wx hSx; obtain ⟨hs1, hs2, hs3, _⟩ := hSx; go_simp; (try with_reducible rfl))
            (try simp only [Act.put, zA, zB, zC, zD, zE, zF])
            refine tK 12 (v := ?_) rfl hHeld ?_ ?_
            rotate_left
            · (intro wx hSx; obtain ⟨hs1, hs2, hs3, _⟩ := hSx; go_simp; (try with_reducible rfl))
            (try simp only [Act.put, zA, zB, zC, zD, zE, zF])
            refine tK 13 (v := ?_) rfl hHeld ?_ ?_
            rotate_left
            · (intro wx hSx; obtain ⟨hs1, hs2, hs3, _⟩ := hSx; go_simp; (try with_reducible rfl))
            (try simp only [Act.put, zA, zB, zC, zD, zE, zF])
            refine tK 14 (v := ?_) rfl hHeld ?_ ?_
            rotate_left
            · (intro wx hSx; obtain ⟨hs1, hs2, hs3, _⟩ := hSx; go_simp; (try with_reducible rfl))
            (try simp only [Act.put, zA, zB, zC, zD, zE, zF])
            refine tK 15 (v := ?_) rfl hHeld ?_ ?_
            rotate_left
            · (intro wx hSx; obtain ⟨hs1, hs2, hs3, _⟩ := hSx; go_simp; (try with_reducible rfl))
            (try simp only [Act.put, zA, zB, zC, zD, zE, zF])
            refine tK 16 (v := ?_) rfl hHeld ?_ ?_
            rotate_left
            · (intro wx hSx; obtain ⟨hs1, hs2, hs3, _⟩ := hSx; go_simp; (try with_reducible rfl))
            (try simp only [Act.put, zA, zB, zC, zD, zE, zF])
            refine tK 17 (v := ?_) rfl hHeld ?_ ?_
            rotate_left
            · (intro wx hSx; obtain ⟨hs1, hs2, hs3, _⟩ := hSx; go_simp; (try with_reducible rfl))
            (try simp only [Act.put, zA, zB, zC, zD, zE, zF])
            refine tK 18 (v := ?_) rfl hHeld ?_ ?_
            rotate_left
            · (intro wx hSx; obtain ⟨hs1, hs2, hs3, _⟩ := hSx; go_simp; (try with_reducible rfl))
            (try simp only [Act.put, zA, zB, zC, zD, zE, zF])
            refine tK 19 (v := ?_) rfl hHeld ?_ ?_
            rotate_left
            · (intro wx hSx; obtain ⟨hs1, hs2, hs3, _⟩ := hSx; go_simp; (try with_reducible rfl))
            (try simp only [Act.put, zA, zB, zC, zD, zE, zF])
            refine tK 20 (v := ?_) rfl hHeld ?_ ?_
            rotate_left
            · (intro wx hSx; obtain ⟨hs1, hs2, hs3, _⟩ := hSx; go_simp; (try with_reducible rfl))
            (try simp only [Act.put, zA, zB, zC, zD, zE, zF])
            refine tK 21 (v := ?_) rfl hHeld ?_ ?_
            rotate_left
            · (intro wx hSx; obtain ⟨hs1, hs2, hs3, _⟩ := hSx; go_simp; (try with_reducible rfl))
            (try simp only [Act.put, zA, zB, zC, zD, zE, zF])
            refine tK 22 (v := ?_) rfl hHeld ?_ ?_
            rotate_left
            · (intro wx hSx; obtain ⟨hs1, hs2, hs3, _⟩ := hSx; go_simp; (try with_reducible rfl))
            (try simp only [Act.put, zA, zB, zC, zD, zE, zF])
            refine tK 23 (v := ?_) rfl hHeld ?_ ?_
            rotate_left
            · (intro wx hSx; obtain ⟨hs1, hs2, hs3, _⟩ := hSx; go_simp; (try with_reducible rfl))
            (try simp only [Act.put, zA, zB, zC, zD, zE, zF])
            refine wpAnyH_done (by kernel_rfl) ?_ _
            have HB1 := LH (HB.out.drew.trans (hb1.mono HB.out.size))
            clear hb1 hHeld hS0 hS1
            go_wp2
            go_ret
            exact ⟨by rw [decide_eq_false HN.out]; rfl, HB1.out⟩
          · have hdg : decide (l[j].1 ≤ l[i].2) = false := decide_eq_false hg
            have HK : Hid (okR (-1) (l.take (j + 1))) := LH (by subst hi; exact (okR.at_succ l i hlt HP.out).2 ⟨HFI.out, by omega⟩)
            clear hg h0 hi
            have hS0 : HeldR w b (off + j * 2) l[j] (off + i * 2) l[i].2 wr.drew := ⟨c1, c2, c3, HB.out.drew⟩
            have hS1 : ∀ w1, Below wr.drew.heap.size wr.drew w1 → HeldR w b (off + j * 2) l[j] (off + i * 2) l[i].2 w1 := fun w1 h =>
              ⟨(h.cell hbw).trans c1, (h.cell hbw).trans c2, (h.cell hbw).trans c3, HB.out.drew.trans (h.mono HB.out.size)⟩
            go_wp2
            refine wp_region_held_drew (S := HeldR w b (off + j * 2) l[j] (off + i * 2) l[i].2) (by kernel_rfl) hS0 (fun hHeld => ?_)
            refine tK 0 (v := ?_) rfl hHeld ?_ ?_
            rotate_left
            · (intro wx hSx; obtain ⟨hs1, hs2, hs3, _⟩ := hSx; go_simp; (try with_reducible rfl))
            (try simp only [Act.put, zA, zC, zD, zE, zF])
            refine tK 1 (v := ?_) rfl hHeld ?_ ?_
            rotate_left
            · (intro wx hSx; obtain ⟨hs1, hs2, hs3, _⟩ := hSx; go_simp; (try with_reducible rfl))
            (try simp only [Act.put, zA, zB, zC, zD, zE, zF])
            refine tK 2 (v := ?_) rfl hHeld ?_ ?_
            rotate_left
            · (intro wx hSx; obtain ⟨hs1, hs2, hs3, _⟩ := hSx; go_simp; (try with_reducible rfl))
            (try simp only [Act.put, zA, zB, zC, zD, zE, zF])
            refine tK 3 (v := ?_) rfl hHeld ?_ ?_
            rotate_left
            · (intro wx hSx; obtain ⟨hs1, hs2, hs3, _⟩ := hSx; go_simp; (try with_reducible rfl))
            (try simp only [Act.put, zA, zB, zC, zD, zE, zF])
            refine wpAnyH_ready (rs := [4]) (by kernel_rfl) (by simp) ?_
            refine AllReadyH.cons rfl (fun K hK => ?_) AllReadyH.nil
            rw [if_pos (by rfl)]
            go_simp
            refine (HC.out _).mono ?_
            rintro e w1 ⟨rfl, hb1⟩
            (try simp only [])
            refine hK.out _ _ (hS1 w1 hb1) (fun hHeld => ?_)
            clear hK K
            (try simp only [Act.put, zA, zB, zC, zD, zE, zF])
            refine tK 5 (v := ?_) rfl hHeld ?_ ?_
            rotate_left
            · (intro wx hSx; obtain ⟨hs1, hs2, hs3, _⟩ := hSx; go_simp; (try with_reducible rfl))
            (try simp only [Act.put, zA, zB, zC, zD, zE, zF])
            refine tK 6 (v := ?_) rfl hHeld ?_ ?_
            rotate_left
            · (intro wx hSx; obtain ⟨hs1, hs2, hs3, _⟩ := hSx; go_simp; (try with_reducible rfl))
            (try simp only [Act.put, zA, zB, zC, zD, zE, zF])
            refine tK 7 (v := ?_) rfl hHeld ?_ ?_
            rotate_left
            · (intro wx hSx; obtain ⟨hs1, hs2, hs3, _⟩ := hSx; go_simp; (try with_reducible rfl))
            (try simp only [Act.put, zA, zB, zC, zD, zE, zF])
            refine tK 8 (v := ?_) rfl hHeld ?_ ?_
            rotate_left
            · (intro wx hSx; obtain ⟨hs1, hs2, hs3, _⟩ := hSx; go_simp; (try with_reducible rfl))
            (try simp only [Act.put, zA, zB, zC, zD, zE, zF])
            refine tK 9 (v := ?_) rfl hHeld ?_ ?_
            rotate_left
            · (intro wx hSx; obtain ⟨hs1, hs2, hs3, _⟩ := hSx; go_simp; (try with_reducible rfl))
            (try simp only [Act.put, zA, zB, zC, zD, zE, zF])
            refine tK 10 (v := ?_) rfl hHeld ?_ ?_
            rotate_left
            · (intro wx hSx; obtain ⟨hs1, hs2, hs3, _⟩ := hSx; go_simp; (try with_reducible rfl))
            (try simp only [Act.put, zA, zB, zC, zD, zE, zF])
            refine tK 11 (v := ?_) rfl hHeld ?_ ?_
            rotate_left
            · (intro wx hSx; obtain ⟨hs1, hs2, hs3, _⟩ := hSx; go_simp; (try with_reducible rfl))
            (try simp only [Act.put, zA, zB, zC, zD, zE, zF])
            refine tK 12 (v := ?_) rfl hHeld ?_ ?_
            rotate_left
            · (intro wx hSx; obtain ⟨hs1, hs2, hs3, _⟩ := hSx; go_simp; (try with_reducible rfl))
            (try simp only [Act.put, zA, zB, zC, zD, zE, zF])
            refine tK 13 (v := ?_) rfl hHeld ?_ ?_
            rotate_left
            · (intro wx hSx; obtain ⟨hs1, hs2, hs3, _⟩ := hSx; go_simp; (try with_reducible rfl))
            (try simp only [Act.put, zA, zB, zC, zD, zE, zF])
            refine tK 14 (v := ?_) rfl hHeld ?_ ?_
            rotate_left
            · (intro wx hSx; obtain ⟨hs1, hs2, hs3, _⟩ := hSx; go_simp; (try with_reducible rfl))
            (try simp only [Act.put, zA, zB, zC, zD, zE, zF])
            refine tK 15 (v := ?_) rfl hHeld ?_ ?_
            rotate_left
            · (intro wx hSx; obtain ⟨hs1, hs2, hs3, _⟩ := hSx; go_simp; (try with_reducible rfl))
            (try simp only [Act.put, zA, zB, zC, zD, zE, zF])
            refine tK 16 (v := ?_) rfl hHeld ?_ ?_
            rotate_left
            · (intro wx hSx; obtain ⟨hs1, hs2, hs3, _⟩ := hSx; go_simp; (try with_reducible rfl))
            (try simp only [Act.put, zA, zB, zC, zD, zE, zF])
            refine tK 17 (v := ?_) rfl hHeld ?_ ?_
            rotate_left
            · (intro wx hSx; obtain ⟨hs1, hs2, hs3, _⟩ := hSx; go_simp; (try with_reducible rfl))
            (try simp only [Act.put, zA, zB, zC, zD, zE, zF])
            refine tK 18 (v := ?_) rfl hHeld ?_ ?_
            rotate_left
            · (intro wx hSx; obtain ⟨hs1, hs2, hs3, _⟩ := hSx; go_simp; (try with_reducible rfl))
            (try simp only [Act.put, zA, zB, zC, zD, zE, zF])
            refine tK 19 (v := ?_) rfl hHeld ?_ ?_
            rotate_left
            · (intro wx hSx; obtain ⟨hs1, hs2, hs3, _⟩ := hSx; go_simp; (try with_reducible rfl))
            (try simp only [Act.put, zA, zB, zC, zD, zE, zF])
            refine tK 20 (v := ?_) rfl hHeld ?_ ?_
            rotate_left
            · (intro wx hSx; obtain ⟨hs1, hs2, hs3, _⟩ := hSx; go_simp; (try with_reducible rfl))
            (try simp only [Act.put, zA, zB, zC, zD, zE, zF])
            refine tK 21 (v := ?_) rfl hHeld ?_ ?_
            rotate_left
            · (intro wx hSx; obtain ⟨hs1, hs2, hs3, _⟩ := hSx; go_simp; (try with_reducible rfl))
            (try simp only [Act.put, zA, zB, zC, zD, zE, zF])
            refine tK 22 (v := ?_) rfl hHeld ?_ ?_
            rotate_left
            · (intro wx hSx; obtain ⟨hs1, hs2, hs3, _⟩ := hSx; go_simp; (try with_reducible rfl))
            (try simp only [Act.put, zA, zB, zC, zD, zE, zF])
            refine tK 23 (v := ?_) rfl hHeld ?_ ?_
            rotate_left
            · (intro wx hSx; obtain ⟨hs1, hs2, hs3, _⟩ := hSx; go_simp; (try with_reducible rfl))
            (try simp only [Act.put, zA, zB, zC, zD, zE, zF])
            refine wpAnyH_done (by kernel_rfl) ?_ _
            have HB1 := LH (HB.out.drew.trans (hb1.mono HB.out.size))
            clear hb1 hHeld hS0 hS1
            go_wp2
            go_roundw
            case rel => exact ⟨j + 1, hlt, by go_num, HK.out, HB1.out⟩
            case measure => simp [intOf]; omega
      · rw [decide_eq_false hf] at HC
        have HN : Hid (¬ okR (-1) l) := LH fun h => hf (by
          have h1 := h.below l[j] (List.getElem_mem hlt)
          exact ⟨by omega, h1.2⟩)
        clear hf
        have hS0 : HeldR w b (off + j * 2) l[j] (off + j * 2) l[j].2 wr.drew := ⟨c1, c2, c2, HB.out.drew⟩
        have hS1 : ∀ w1, Below wr.drew.heap.size wr.drew w1 → HeldR w b (off + j * 2) l[j] (off + j * 2) l[j].2 w1 := fun w1 h =>
          ⟨(h.cell hbw).trans c1, (h.cell hbw).trans c2, (h.cell hbw).trans c2, HB.out.drew.trans (h.mono HB.out.size)⟩
        go_wp2
        refine wp_region_held_drew (S := HeldR w b (off + j * 2) l[j] (off + j * 2) l[j].2) (by kernel_rfl) hS0 (fun hHeld => ?_)
        refine tK 0 (v := ?_) rfl hHeld ?_ ?_
        rotate_left
        · (intro wx hSx; obtain ⟨hs1, hs2, hs3, _⟩ := hSx; go_simp; (try with_reducible rfl))
        (try simp only [Act.put, zA, zC, zD, zE, zF])
        refine tK 1 (v := ?_) rfl hHeld ?_ ?_
        rotate_left
        · (intro wx hSx; obtain ⟨hs1, hs2, hs3, _⟩ := hSx; go_simp; (try with_reducible rfl))
        (try simp only [Act.put, zA, zB, zC, zD, zE, zF])
        refine tK 2 (v := ?_) rfl hHeld ?_ ?_
        rotate_left
        · (intro wx hSx; obtain ⟨hs1, hs2, hs3, _⟩ := hSx; go_simp; (try with_reducible rfl))
        (try simp only [Act.put, zA, zB, zC, zD, zE, zF])
        refine tK 3 (v := ?_) rfl hHeld ?_ ?_
        rotate_left
        · (intro wx hSx; obtain ⟨hs1, hs2, hs3, _⟩ := hSx; go_simp; (try with_reducible rfl))
        (try simp only [Act.put, zA, zB, zC, zD, zE, zF])
        refine wpAnyH_ready (rs := [4]) (by kernel_rfl) (by simp) ?_
        refine AllReadyH.cons rfl (fun K hK => ?_) AllReadyH.nil
        rw [if_pos (by rfl)]
        go_simp
        refine (HC.out _).mono ?_
        rintro e w1 ⟨rfl, hb1⟩
        (try simp only [])
        refine hK.out _ _ (hS1 w1 hb1) (fun hHeld => ?_)
        clear hK K
        (try simp only [Act.put, zA, zB, zC, zD, zE, zF])
        refine tK 5 (v := ?_) rfl hHeld ?_ ?_
        rotate_left
        · (intro wx hSx; obtain ⟨hs1, hs2, hs3, _⟩ := hSx; go_simp; (try with_reducible rfl))
        (try simp only [Act.put, zA, zB, zC, zD, zE, zF])
        refine tK 6 (v := ?_) rfl hHeld ?_ ?_
        rotate_left
        · (intro wx hSx; obtain ⟨hs1, hs2, hs3, _⟩ := hSx; go_simp; (try with_reducible rfl))
        (try simp only [Act.put, zA, zB, zC, zD, zE, zF])
        refine tN 7 rfl hHeld ?_
        (try simp only [Act.put, zA, zB, zC, zD, zE, zF])
        refine tN 8 rfl hHeld ?_
        (try simp only [Act.put, zA, zB, zC, zD, zE, zF])
        refine tN 9 rfl hHeld ?_
        (try simp only [Act.put, zA, zB, zC, zD, zE, zF])
        refine tN 10 rfl hHeld ?_
        (try simp only [Act.put, zA, zB, zC, zD, zE, zF])
        refine tN 11 rfl hHeld ?_
        (try simp only [Act.put, zA, zB, zC, zD, zE, zF])
        refine tN 12 rfl hHeld ?_
        (try simp only [Act.put, zA, zB, zC, zD, zE, zF])
        refine tN 13 rfl hHeld ?_
        (try simp only [Act.put, zA, zB, zC, zD, zE, zF])
        refine tN 14 rfl hHeld ?_
        (try simp only [Act.put, zA, zB, zC, zD, zE, zF])
        refine tN 15 rfl hHeld ?_
        (try simp only [Act.put, zA, zB, zC, zD, zE, zF])
        refine tN 16 rfl hHeld ?_
        (try simp only [Act.put, zA, zB, zC, zD, zE, zF])
        refine tN 17 rfl hHeld ?_
        (try simp only [Act.put, zA, zB, zC, zD, zE, zF])
        refine tN 18 rfl hHeld ?_
        (try simp only [Act.put, zA, zB, zC, zD, zE, zF])
        refine tN 19 rfl hHeld ?_
        (try simp only [Act.put, zA, zB, zC, zD, zE, zF])
        refine tN 20 rfl hHeld ?_
        (try simp only [Act.put, zA, zB, zC, zD, zE, zF])
        refine tN 21 rfl hHeld ?_
        (try simp only [Act.put, zA, zB, zC, zD, zE, zF])
        refine tN 22 rfl hHeld ?_
        (try simp only [Act.put, zA, zB, zC, zD, zE, zF])
        refine tK 23 (v := ?_) rfl hHeld ?_ ?_
        rotate_left
        · (intro wx hSx; obtain ⟨hs1, hs2, hs3, _⟩ := hSx; go_simp; (try with_reducible rfl))
        (try simp only [Act.put, zA, zB, zC, zD, zE, zF])
        refine wpAnyH_done (by kernel_rfl) ?_ _
        have HB1 := LH (HB.out.drew.trans (hb1.mono HB.out.size))
        clear hb1 hHeld hS0 hS1
        go_wp2
        go_ret
        exact ⟨by rw [decide_eq_false HN.out]; rfl, HB1.out⟩
    · obtain rfl : j = l.length := by omega
      have HP2 := LH HP.out
      rw [List.take_of_length_le (Nat.le_refl _)] at HP2
      go_wp2
      go_ret
      exact ⟨by rw [decide_eq_true HP2.out]; rfl, HB.out⟩
end Go.Proofs.YtdaoaedkjoknmaaGreat
