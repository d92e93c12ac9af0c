/-
  Contracts and lemmas for the law on draining.
-/
import Derived.Test.YtdaoaedkjoknmaaGreatDrZ0
import Derived.Test.YtdaoaedkjoknmaaGreatDrZ5
import Derived.Test.YtdaoaedkjoknmaaGreatDrZ1
import Derived.Test.YtdaoaedkjoknmaaGreatDrZ2
set_option maxRecDepth 1000000
set_option maxHeartbeats 8000000
namespace Go.Proofs.YtdaoaedkjoknmaaGreat
open Go.RowKit Go.Deep Go.Proofs.YtdaoaedkjoknmaaGreat.Num

theorem ireachb (nx o : Int) (d : ByteArray) (w : World) (hd : d.size ≤ maxLen) :
    Calls Tryz.prog 108 #[.int .i64 nx, .int .i64 o, .string d] w fun e w' => e = .returned (.bool (decide (d.size ≠ 0 ∧ 0 ≤ o ∧ o ≤ 4611686018427387903 - (d.size : Int) ∧ nx < o + d.size))) ∧ w' = w := by
  have hemp := data_empty d
  have HF := LH fun W => ifits o d W hd
  unfold maxLen at hd
  by_cases h1 : d.size = 0
  · rw [decide_eq_true h1] at hemp
    rw [decide_eq_false (fun h => h.1 h1)]
    clear h1 HF
    go_enter Tryz.func108, Tryz.ntmps108
    go_wp2
    go_ret
    exact ⟨rfl, rfl⟩
  rw [decide_eq_false h1] at hemp
  by_cases h2 : 0 ≤ o
  · have hd2 : decide (0 ≤ o) = true := decide_eq_true h2
    by_cases h3 : o ≤ 4611686018427387903 - (d.size : Int)
    · rw [decide_eq_true h3] at HF
      have hw : wrap64 (o + (d.size : Int)) = o + (d.size : Int) := by unfold wrap64; omega
      have HV : Hid (decide (d.size ≠ 0 ∧ 0 ≤ o ∧ o ≤ 4611686018427387903 - (d.size : Int) ∧ nx < o + d.size) = decide (nx < o + (d.size : Int))) := LH (decide_eq_decide.2 ⟨fun h => h.2.2.2, fun h => ⟨h1, h2, h3, h⟩⟩)
      rw [HV.out]
      clear h1 h2 h3 hd
      go_enter Tryz.func108, Tryz.ntmps108
      go_wp2_with fail
      refine (HF.out _).mono ?_
      rintro e w1 ⟨rfl, rfl⟩
      go_wp2
      go_ret
      exact ⟨rfl, rfl⟩
    · rw [decide_eq_false h3] at HF
      rw [decide_eq_false (fun h => h3 h.2.2.1)]
      clear h1 h2 h3 hd
      go_enter Tryz.func108, Tryz.ntmps108
      go_wp2_with fail
      refine (HF.out _).mono ?_
      rintro e w1 ⟨rfl, rfl⟩
      go_wp2
      go_ret
      exact ⟨rfl, rfl⟩
  · have hd2 : decide (0 ≤ o) = false := decide_eq_false h2
    rw [decide_eq_false (fun h => h2 h.2.1)]
    clear h1 h2 HF hd
    go_enter Tryz.func108, Tryz.ntmps108
    go_wp2
    go_ret
    exact ⟨rfl, rfl⟩

def HeldK (w : World) (c : Ch) (W : World) : Prop := (W.cell? ⟨w.heap.size, 0, none⟩ = some (.int .i64 c.off) ∧ W.cell? ⟨w.heap.size, 1, none⟩ = some (.string c.data)) ∧ w.heap.size < W.heap.size ∧ Below w.heap.size w W
theorem HeldK.start (w : World) (c : Ch) (t : TypeId) : HeldK w c (w.alloc (.cells (chC c) t)) :=
  ⟨box2 w (.int .i64 c.off) (.string c.data) t, by simp, (Below.refl _ _).alloc (Nat.le_refl _) _⟩
theorem HeldK.next {w W W1 : World} {c : Ch} (h : HeldK w c W) (hb : Below W.heap.size W W1) : HeldK w c W1 :=
  ⟨⟨(hb.cell (p := ⟨w.heap.size, 0, none⟩) h.2.1).trans h.1.1, (hb.cell (p := ⟨w.heap.size, 1, none⟩) h.2.1).trans h.1.2⟩, Nat.lt_of_lt_of_le h.2.1 hb.size, h.2.2.trans (hb.mono (Nat.le_of_lt h.2.1))⟩
theorem HeldK.alloc {w W : World} {c : Ch} (h : HeldK w c W) (o : Obj) : HeldK w c (W.alloc o) := h.next ((Below.refl _ _).alloc (Nat.le_refl _) _)
theorem HeldK.drew {w W : World} {c : Ch} (h : HeldK w c W) : HeldK w c W.drew := h.next (Below.refl _ _).drew

theorem ireached (c : Ch) (l : List Ch) (A : Option Addr) (cap B : Nat) (w : World) (hB : B ≤ w.heap.size) (hr : Chs w B A l) (hn : l.length ≤ 1000000000)
    (hs : ∀ x ∈ l, 0 ≤ x.off ∧ x.off + (x.data.size : Int) ≤ 4611686018427387903) (hc : 0 ≤ c.off ∧ c.off + (c.data.size : Int) ≤ 4611686018427387903) :
    Calls Tryz.prog 136 #[.slice A l.length cap, chV c] w fun e w' => ∃ lo hi : Nat, e = .returned (.tuple #[.int .i64 lo, .int .i64 hi]) ∧ lo ≤ hi ∧ hi ≤ l.length ∧
      (∀ k (hk : k < l.length), k < lo → l[k].off + (l[k].data.size : Int) < c.off) ∧ (∀ hx : lo < l.length, ¬ l[lo].off + (l[lo].data.size : Int) < c.off) ∧
      (∀ k (hk : k < l.length), lo ≤ k → k < hi → l[k].off ≤ c.off + (c.data.size : Int)) ∧ (∀ hx : hi < l.length, c.off + (c.data.size : Int) < l[hi].off) ∧ Below w.heap.size w w' := by
  have HR := LH hr
  have HSZ := LH hs
  have HEC := LH fun W => iendc c W (by omega)
  have H0 := LH (HeldK.start w c 140)
  clear hr hs hc
  go_enter Tryz.func136, Tryz.ntmps136
  go_wp2
  go_loopw [6] (fun i wr => ∃ j : Nat, j ≤ l.length ∧ i = .int .i64 j ∧ (∀ k (hk : k < l.length), k < j → l[k].off + (l[k].data.size : Int) < c.off) ∧ HeldK w c wr) (fun i _ => l.length - (intOf i).toNat)
  case atStart => exact ⟨0, Nat.zero_le _, rfl, fun k _ h => by omega, H0.out⟩
  case round =>
    obtain ⟨j, hj, rfl, hp, hh⟩ := hrel
    have HP := LH hp
    have HH := LH hh.drew
    clear hp hh H0
    by_cases hlt : j < l.length
    · obtain ⟨g, off, rfl, hbB, c0, c1⟩ := HR.out.cells j hlt
      have hse := HSZ.out l[j] (List.getElem_mem hlt)
      have HSN : Hid (l[j].off + (l[j].data.size : Int) < c.off → ∀ k (hk : k < l.length), k < j + 1 → l[k].off + (l[k].data.size : Int) < c.off) := LH (fun h3 k hk h2 => by
        by_cases hkh : k = j
        · subst hkh; exact h3
        · exact HP.out k hk (by omega))
      have HNJ0 : Hid (¬ l[j].off + (l[j].data.size : Int) < c.off → ∀ hx : j < l.length, ¬ l[j].off + (l[j].data.size : Int) < c.off) := LH (fun h _ => h)
      have HC : Hid (∀ W, Below w.heap.size w W → W.cell? ⟨g, off + j * 2, none⟩ = some (.int .i64 l[j].off) ∧ W.cell? ⟨g, off + j * 2 + 1, none⟩ = some (.string l[j].data)) := LH fun W h => ⟨(h.cell (p := ⟨g, off + _, none⟩) (by show g < _; omega)).trans c0, (h.cell (p := ⟨g, off + _ + 1, none⟩) (by show g < _; omega)).trans c1⟩
      have HE := LH fun W => iendc l[j] W (by omega)
      have hltd : decide ((j : Int) < (l.length : Int)) = true := decide_eq_true (by omega)
      clear c0 c1 hse
      by_cases hle : l[j].off + (l[j].data.size : Int) < c.off
      · have HP3 := LH (HSN.out hle)
        have hd : decide (l[j].off + (l[j].data.size : Int) < c.off) = true := decide_eq_true hle
        clear hle HSN HNJ0
        generalize l[j] = x at *
        generalize x.off + (x.data.size : Int) = xe at *
        go_upto_region 2 with fail
        refine wp_region_held_drew (S := HeldK w c) (by kernel_rfl) HH.out (fun hHeld => ?_)
        refine tK 0 (v := ?_) rfl hHeld ?_ ?_
        rotate_left
        · (intro wx hSx; obtain ⟨⟨q0, q1⟩, c0, c1⟩ : (_ ∧ _) ∧ _ ∧ _ := ⟨hSx.1, HC.out _ hSx.2.2⟩; go_simp; (try with_reducible rfl))
        (try simp only [Act.put, zA, zC, zD, zE, zF])
        refine tK 1 (v := ?_) rfl hHeld ?_ ?_
        rotate_left
        · (intro wx hSx; obtain ⟨⟨q0, q1⟩, c0, c1⟩ : (_ ∧ _) ∧ _ ∧ _ := ⟨hSx.1, HC.out _ hSx.2.2⟩; go_simp; (try with_reducible rfl))
        (try simp only [Act.put, zA, zB, zC, zD, zE, zF])
        refine tK 2 (v := ?_) rfl hHeld ?_ ?_
        rotate_left
        · (intro wx hSx; obtain ⟨⟨q0, q1⟩, c0, c1⟩ : (_ ∧ _) ∧ _ ∧ _ := ⟨hSx.1, HC.out _ hSx.2.2⟩; go_simp; (try with_reducible rfl))
        (try simp only [Act.put, zA, zB, zC, zD, zE, zF])
        refine tK 3 (v := ?_) rfl hHeld ?_ ?_
        rotate_left
        · (intro wx hSx; obtain ⟨⟨q0, q1⟩, c0, c1⟩ : (_ ∧ _) ∧ _ ∧ _ := ⟨hSx.1, HC.out _ hSx.2.2⟩; go_simp; (try with_reducible rfl))
        (try simp only [Act.put, zA, zB, zC, zD, zE, zF])
        refine tK 4 (v := ?_) rfl hHeld ?_ ?_
        rotate_left
        · (intro wx hSx; obtain ⟨⟨q0, q1⟩, c0, c1⟩ : (_ ∧ _) ∧ _ ∧ _ := ⟨hSx.1, HC.out _ hSx.2.2⟩; go_simp; (try with_reducible rfl))
        (try simp only [Act.put, zA, zB, zC, zD, zE, zF])
        refine tK 5 (v := ?_) rfl hHeld ?_ ?_
        rotate_left
        · (intro wx hSx; obtain ⟨⟨q0, q1⟩, c0, c1⟩ : (_ ∧ _) ∧ _ ∧ _ := ⟨hSx.1, HC.out _ hSx.2.2⟩; go_simp; (try with_reducible rfl))
        (try simp only [Act.put, zA, zB, zC, zD, zE, zF])
        refine tK 6 (v := ?_) rfl hHeld ?_ ?_
        rotate_left
        · (intro wx hSx; obtain ⟨⟨q0, q1⟩, c0, c1⟩ : (_ ∧ _) ∧ _ ∧ _ := ⟨hSx.1, HC.out _ hSx.2.2⟩; go_simp; (try with_reducible rfl))
        (try simp only [Act.put, zA, zB, zC, zD, zE, zF])
        refine tK 7 (v := ?_) rfl hHeld ?_ ?_
        rotate_left
        · (intro wx hSx; obtain ⟨⟨q0, q1⟩, c0, c1⟩ : (_ ∧ _) ∧ _ ∧ _ := ⟨hSx.1, HC.out _ hSx.2.2⟩; go_simp; (try with_reducible rfl))
        (try simp only [Act.put, zA, zB, zC, zD, zE, zF])
        refine tK 8 (v := ?_) rfl hHeld ?_ ?_
        rotate_left
        · (intro wx hSx; obtain ⟨⟨q0, q1⟩, c0, c1⟩ : (_ ∧ _) ∧ _ ∧ _ := ⟨hSx.1, HC.out _ hSx.2.2⟩; go_simp; (try with_reducible rfl))
        (try simp only [Act.put, zA, zB, zC, zD, zE, zF])
        refine tK 10 (v := ?_) rfl hHeld ?_ ?_
        rotate_left
        · (intro wx hSx; obtain ⟨⟨q0, q1⟩, c0, c1⟩ : (_ ∧ _) ∧ _ ∧ _ := ⟨hSx.1, HC.out _ hSx.2.2⟩; go_simp; (try with_reducible rfl))
        (try simp only [Act.put, zA, zB, zC, zD, zE, zF])
        refine tK 11 (v := ?_) rfl hHeld ?_ ?_
        rotate_left
        · (intro wx hSx; obtain ⟨⟨q0, q1⟩, c0, c1⟩ : (_ ∧ _) ∧ _ ∧ _ := ⟨hSx.1, HC.out _ hSx.2.2⟩; go_simp; (try with_reducible rfl))
        (try simp only [Act.put, zA, zB, zC, zD, zE, zF])
        refine wpAnyH_ready (rs := [9]) (by kernel_rfl) (by simp) ?_
        refine AllReadyH.cons rfl (fun K hK => ?_) AllReadyH.nil
        rw [if_pos (by rfl)]
        go_simp
        refine (HE.out _).mono ?_
        rintro e w1 ⟨rfl, hb1⟩
        have HH := LH (HH.out.next hb1)
        (try simp only [])
        refine hK.out _ _ HH.out (fun hHeld => ?_)
        clear hb1
        clear hK K
        (try simp only [Act.put, zA, zB, zC, zD, zE, zF])
        refine tK 12 (v := ?_) rfl hHeld ?_ ?_
        rotate_left
        · (intro wx hSx; obtain ⟨⟨q0, q1⟩, c0, c1⟩ : (_ ∧ _) ∧ _ ∧ _ := ⟨hSx.1, HC.out _ hSx.2.2⟩; go_simp; (try with_reducible rfl))
        (try simp only [Act.put, zA, zB, zC, zD, zE, zF])
        refine tK 13 (v := ?_) rfl hHeld ?_ ?_
        rotate_left
        · (intro wx hSx; obtain ⟨⟨q0, q1⟩, c0, c1⟩ : (_ ∧ _) ∧ _ ∧ _ := ⟨hSx.1, HC.out _ hSx.2.2⟩; go_simp; (try with_reducible rfl))
        (try simp only [Act.put, zA, zB, zC, zD, zE, zF])
        refine wpAnyH_done (by kernel_rfl) ?_ _
        clear hHeld
        go_wp2
        go_roundw
        case rel => exact ⟨j + 1, by omega, by go_num, HP3.out, HH.out⟩
        case measure => simp [intOf]; omega
      · have HNJ := LH (HNJ0.out hle)
        have hd : decide (l[j].off + (l[j].data.size : Int) < c.off) = false := decide_eq_false hle
        clear hle HSN HNJ0
        generalize l[j] = x at HC HE hd
        generalize x.off + (x.data.size : Int) = xe at HE hd
        go_upto_region 2 with fail
        refine wp_region_held_drew (S := HeldK w c) (by kernel_rfl) HH.out (fun hHeld => ?_)
        refine tK 0 (v := ?_) rfl hHeld ?_ ?_
        rotate_left
        · (intro wx hSx; obtain ⟨⟨q0, q1⟩, c0, c1⟩ : (_ ∧ _) ∧ _ ∧ _ := ⟨hSx.1, HC.out _ hSx.2.2⟩; go_simp; (try with_reducible rfl))
        (try simp only [Act.put, zA, zC, zD, zE, zF])
        refine tK 1 (v := ?_) rfl hHeld ?_ ?_
        rotate_left
        · (intro wx hSx; obtain ⟨⟨q0, q1⟩, c0, c1⟩ : (_ ∧ _) ∧ _ ∧ _ := ⟨hSx.1, HC.out _ hSx.2.2⟩; go_simp; (try with_reducible rfl))
        (try simp only [Act.put, zA, zB, zC, zD, zE, zF])
        refine tK 2 (v := ?_) rfl hHeld ?_ ?_
        rotate_left
        · (intro wx hSx; obtain ⟨⟨q0, q1⟩, c0, c1⟩ : (_ ∧ _) ∧ _ ∧ _ := ⟨hSx.1, HC.out _ hSx.2.2⟩; go_simp; (try with_reducible rfl))
        (try simp only [Act.put, zA, zB, zC, zD, zE, zF])
        refine tK 3 (v := ?_) rfl hHeld ?_ ?_
        rotate_left
        · (intro wx hSx; obtain ⟨⟨q0, q1⟩, c0, c1⟩ : (_ ∧ _) ∧ _ ∧ _ := ⟨hSx.1, HC.out _ hSx.2.2⟩; go_simp; (try with_reducible rfl))
        (try simp only [Act.put, zA, zB, zC, zD, zE, zF])
        refine tK 4 (v := ?_) rfl hHeld ?_ ?_
        rotate_left
        · (intro wx hSx; obtain ⟨⟨q0, q1⟩, c0, c1⟩ : (_ ∧ _) ∧ _ ∧ _ := ⟨hSx.1, HC.out _ hSx.2.2⟩; go_simp; (try with_reducible rfl))
        (try simp only [Act.put, zA, zB, zC, zD, zE, zF])
        refine tK 5 (v := ?_) rfl hHeld ?_ ?_
        rotate_left
        · (intro wx hSx; obtain ⟨⟨q0, q1⟩, c0, c1⟩ : (_ ∧ _) ∧ _ ∧ _ := ⟨hSx.1, HC.out _ hSx.2.2⟩; go_simp; (try with_reducible rfl))
        (try simp only [Act.put, zA, zB, zC, zD, zE, zF])
        refine tK 6 (v := ?_) rfl hHeld ?_ ?_
        rotate_left
        · (intro wx hSx; obtain ⟨⟨q0, q1⟩, c0, c1⟩ : (_ ∧ _) ∧ _ ∧ _ := ⟨hSx.1, HC.out _ hSx.2.2⟩; go_simp; (try with_reducible rfl))
        (try simp only [Act.put, zA, zB, zC, zD, zE, zF])
        refine tK 7 (v := ?_) rfl hHeld ?_ ?_
        rotate_left
        · (intro wx hSx; obtain ⟨⟨q0, q1⟩, c0, c1⟩ : (_ ∧ _) ∧ _ ∧ _ := ⟨hSx.1, HC.out _ hSx.2.2⟩; go_simp; (try with_reducible rfl))
        (try simp only [Act.put, zA, zB, zC, zD, zE, zF])
        refine tK 8 (v := ?_) rfl hHeld ?_ ?_
        rotate_left
        · (intro wx hSx; obtain ⟨⟨q0, q1⟩, c0, c1⟩ : (_ ∧ _) ∧ _ ∧ _ := ⟨hSx.1, HC.out _ hSx.2.2⟩; go_simp; (try with_reducible rfl))
        (try simp only [Act.put, zA, zB, zC, zD, zE, zF])
        refine tK 10 (v := ?_) rfl hHeld ?_ ?_
        rotate_left
        · (intro wx hSx; obtain ⟨⟨q0, q1⟩, c0, c1⟩ : (_ ∧ _) ∧ _ ∧ _ := ⟨hSx.1, HC.out _ hSx.2.2⟩; go_simp; (try with_reducible rfl))
        (try simp only [Act.put, zA, zB, zC, zD, zE, zF])
        refine tK 11 (v := ?_) rfl hHeld ?_ ?_
        rotate_left
        · (intro wx hSx; obtain ⟨⟨q0, q1⟩, c0, c1⟩ : (_ ∧ _) ∧ _ ∧ _ := ⟨hSx.1, HC.out _ hSx.2.2⟩; go_simp; (try with_reducible rfl))
        (try simp only [Act.put, zA, zB, zC, zD, zE, zF])
        refine wpAnyH_ready (rs := [9]) (by kernel_rfl) (by simp) ?_
        refine AllReadyH.cons rfl (fun K hK => ?_) AllReadyH.nil
        rw [if_pos (by rfl)]
        go_simp
        refine (HE.out _).mono ?_
        rintro e w1 ⟨rfl, hb1⟩
        have HH := LH (HH.out.next hb1)
        (try simp only [])
        refine hK.out _ _ HH.out (fun hHeld => ?_)
        clear hb1
        clear hK K
        (try simp only [Act.put, zA, zB, zC, zD, zE, zF])
        refine tK 12 (v := ?_) rfl hHeld ?_ ?_
        rotate_left
        · (intro wx hSx; obtain ⟨⟨q0, q1⟩, c0, c1⟩ : (_ ∧ _) ∧ _ ∧ _ := ⟨hSx.1, HC.out _ hSx.2.2⟩; go_simp; (try with_reducible rfl))
        (try simp only [Act.put, zA, zB, zC, zD, zE, zF])
        refine tK 13 (v := ?_) rfl hHeld ?_ ?_
        rotate_left
        · (intro wx hSx; obtain ⟨⟨q0, q1⟩, c0, c1⟩ : (_ ∧ _) ∧ _ ∧ _ := ⟨hSx.1, HC.out _ hSx.2.2⟩; go_simp; (try with_reducible rfl))
        (try simp only [Act.put, zA, zB, zC, zD, zE, zF])
        refine wpAnyH_done (by kernel_rfl) ?_ _
        clear hHeld HC HE hd hltd hbB
        have HH := LH HH.out
        have hjl := hj
        go_wp2
        go_loopw [7] (fun i wr => ∃ h : Nat, j ≤ h ∧ h ≤ l.length ∧ i = .int .i64 h ∧ (∀ k (hk : k < l.length), j ≤ k → k < h → l[k].off ≤ c.off + (c.data.size : Int)) ∧ HeldK w c wr) (fun i _ => l.length - (intOf i).toNat)
        case atStart => exact ⟨j, Nat.le_refl _, hjl, rfl, fun k _ h1 h2 => by omega, HH.out⟩
        case round =>
          obtain ⟨h, hjh, hhl, rfl, hp2, hh⟩ := hrel
          have HP2 := LH hp2
          have HH := LH hh.drew
          clear hp2 hh
          by_cases hlt2 : h < l.length
          · obtain ⟨g2, off2, hA, hbB, c0, c1⟩ := HR.out.cells h hlt2
            obtain ⟨rfl, rfl⟩ : g = g2 ∧ off = off2 := by injection hA with hA; injection hA with e1 e2 _; exact ⟨e1, e2⟩
            have HSN : Hid (l[h].off ≤ c.off + (c.data.size : Int) → ∀ k (hk : k < l.length), j ≤ k → k < h + 1 → l[k].off ≤ c.off + (c.data.size : Int)) := LH (fun h3 k hk h1 h2 => by
              by_cases hkh : k = h
              · subst hkh; exact h3
              · exact HP2.out k hk h1 (by omega))
            have HST : Hid (∀ x, l[h] = x → ∀ hx : h < l.length, l[h].off = x.off) := LH (fun x hx _ => by rw [hx])
            generalize hxe : l[h] = x at *
            have HXO := LH (HST.out x rfl)
            have HC : Hid (∀ W, Below w.heap.size w W → W.cell? ⟨g, off + h * 2, none⟩ = some (.int .i64 x.off) ∧ W.cell? ⟨g, off + h * 2 + 1, none⟩ = some (.string x.data)) := LH fun W h => ⟨(h.cell (p := ⟨g, off + _, none⟩) (by show g < _; omega)).trans c0, (h.cell (p := ⟨g, off + _ + 1, none⟩) (by show g < _; omega)).trans c1⟩
            have HE := LH HEC.out
            have hlt2d : decide ((h : Int) < (l.length : Int)) = true := decide_eq_true (by omega)
            clear c0 c1 hxe HST
            generalize hce : c.off + (c.data.size : Int) = ce at *
            have HCE := LH hce.symm
            clear hce
            by_cases hle : x.off ≤ ce
            · have hd : decide (x.off ≤ ce) = true := decide_eq_true hle
              have HP3 := LH (HSN.out hle)
              clear hle HSN
              go_upto_region 5 with fail
              refine wp_region_held_drew (S := HeldK w c) (by kernel_rfl) HH.out (fun hHeld => ?_)
              refine tK 0 (v := ?_) rfl hHeld ?_ ?_
              rotate_left
              · (intro wx hSx; obtain ⟨⟨q0, q1⟩, c0, c1⟩ : (_ ∧ _) ∧ _ ∧ _ := ⟨hSx.1, HC.out _ hSx.2.2⟩; go_simp; (try with_reducible rfl))
              (try simp only [Act.put, zA, zC, zD, zE, zF])
              refine tK 1 (v := ?_) rfl hHeld ?_ ?_
              rotate_left
              · (intro wx hSx; obtain ⟨⟨q0, q1⟩, c0, c1⟩ : (_ ∧ _) ∧ _ ∧ _ := ⟨hSx.1, HC.out _ hSx.2.2⟩; go_simp; (try with_reducible rfl))
              (try simp only [Act.put, zA, zB, zC, zD, zE, zF])
              refine tK 2 (v := ?_) rfl hHeld ?_ ?_
              rotate_left
              · (intro wx hSx; obtain ⟨⟨q0, q1⟩, c0, c1⟩ : (_ ∧ _) ∧ _ ∧ _ := ⟨hSx.1, HC.out _ hSx.2.2⟩; go_simp; (try with_reducible rfl))
              (try simp only [Act.put, zA, zB, zC, zD, zE, zF])
              refine tK 3 (v := ?_) rfl hHeld ?_ ?_
              rotate_left
              · (intro wx hSx; obtain ⟨⟨q0, q1⟩, c0, c1⟩ : (_ ∧ _) ∧ _ ∧ _ := ⟨hSx.1, HC.out _ hSx.2.2⟩; go_simp; (try with_reducible rfl))
              (try simp only [Act.put, zA, zB, zC, zD, zE, zF])
              refine tK 4 (v := ?_) rfl hHeld ?_ ?_
              rotate_left
              · (intro wx hSx; obtain ⟨⟨q0, q1⟩, c0, c1⟩ : (_ ∧ _) ∧ _ ∧ _ := ⟨hSx.1, HC.out _ hSx.2.2⟩; go_simp; (try with_reducible rfl))
              (try simp only [Act.put, zA, zB, zC, zD, zE, zF])
              refine tK 5 (v := ?_) rfl hHeld ?_ ?_
              rotate_left
              · (intro wx hSx; obtain ⟨⟨q0, q1⟩, c0, c1⟩ : (_ ∧ _) ∧ _ ∧ _ := ⟨hSx.1, HC.out _ hSx.2.2⟩; go_simp; (try with_reducible rfl))
              (try simp only [Act.put, zA, zB, zC, zD, zE, zF])
              refine tK 6 (v := ?_) rfl hHeld ?_ ?_
              rotate_left
              · (intro wx hSx; obtain ⟨⟨q0, q1⟩, c0, c1⟩ : (_ ∧ _) ∧ _ ∧ _ := ⟨hSx.1, HC.out _ hSx.2.2⟩; go_simp; (try with_reducible rfl))
              (try simp only [Act.put, zA, zB, zC, zD, zE, zF])
              refine tK 7 (v := ?_) rfl hHeld ?_ ?_
              rotate_left
              · (intro wx hSx; obtain ⟨⟨q0, q1⟩, c0, c1⟩ : (_ ∧ _) ∧ _ ∧ _ := ⟨hSx.1, HC.out _ hSx.2.2⟩; go_simp; (try with_reducible rfl))
              (try simp only [Act.put, zA, zB, zC, zD, zE, zF])
              refine tK 8 (v := ?_) rfl hHeld ?_ ?_
              rotate_left
              · (intro wx hSx; obtain ⟨⟨q0, q1⟩, c0, c1⟩ : (_ ∧ _) ∧ _ ∧ _ := ⟨hSx.1, HC.out _ hSx.2.2⟩; go_simp; (try with_reducible rfl))
              (try simp only [Act.put, zA, zB, zC, zD, zE, zF])
              refine tK 9 (v := ?_) rfl hHeld ?_ ?_
              rotate_left
              · (intro wx hSx; obtain ⟨⟨q0, q1⟩, c0, c1⟩ : (_ ∧ _) ∧ _ ∧ _ := ⟨hSx.1, HC.out _ hSx.2.2⟩; go_simp; (try with_reducible rfl))
              (try simp only [Act.put, zA, zB, zC, zD, zE, zF])
              refine tK 10 (v := ?_) rfl hHeld ?_ ?_
              rotate_left
              · (intro wx hSx; obtain ⟨⟨q0, q1⟩, c0, c1⟩ : (_ ∧ _) ∧ _ ∧ _ := ⟨hSx.1, HC.out _ hSx.2.2⟩; go_simp; (try with_reducible rfl))
              (try simp only [Act.put, zA, zB, zC, zD, zE, zF])
              refine wpAnyH_ready (rs := [11]) (by kernel_rfl) (by simp) ?_
              refine AllReadyH.cons rfl (fun K hK => ?_) AllReadyH.nil
              rw [if_pos (by rfl)]
              go_simp
              refine (HE.out _).mono ?_
              rintro e w1 ⟨rfl, hb1⟩
              have HH := LH (HH.out.next hb1)
              (try simp only [])
              refine hK.out _ _ HH.out (fun hHeld => ?_)
              clear hb1
              clear hK K
              (try simp only [Act.put, zA, zB, zC, zD, zE, zF])
              refine tK 12 (v := ?_) rfl hHeld ?_ ?_
              rotate_left
              · (intro wx hSx; obtain ⟨⟨q0, q1⟩, c0, c1⟩ : (_ ∧ _) ∧ _ ∧ _ := ⟨hSx.1, HC.out _ hSx.2.2⟩; go_simp; (try with_reducible rfl))
              (try simp only [Act.put, zA, zB, zC, zD, zE, zF])
              refine tK 13 (v := ?_) rfl hHeld ?_ ?_
              rotate_left
              · (intro wx hSx; obtain ⟨⟨q0, q1⟩, c0, c1⟩ : (_ ∧ _) ∧ _ ∧ _ := ⟨hSx.1, HC.out _ hSx.2.2⟩; go_simp; (try with_reducible rfl))
              (try simp only [Act.put, zA, zB, zC, zD, zE, zF])
              refine wpAnyH_done (by kernel_rfl) ?_ _
              clear hHeld
              go_wp2
              go_roundw
              case rel => exact ⟨h + 1, by omega, by omega, by go_num, HP3.out, HH.out⟩
              case measure => simp [intOf]; omega
            · have hd : decide (x.off ≤ ce) = false := decide_eq_false hle
              have HN3 : Hid (∀ hx : h < l.length, ce < l[h].off) := LH (fun hx => by rw [HXO.out hx]; omega)
              clear hle HSN
              go_upto_region 5 with fail
              refine wp_region_held_drew (S := HeldK w c) (by kernel_rfl) HH.out (fun hHeld => ?_)
              refine tK 0 (v := ?_) rfl hHeld ?_ ?_
              rotate_left
              · (intro wx hSx; obtain ⟨⟨q0, q1⟩, c0, c1⟩ : (_ ∧ _) ∧ _ ∧ _ := ⟨hSx.1, HC.out _ hSx.2.2⟩; go_simp; (try with_reducible rfl))
              (try simp only [Act.put, zA, zC, zD, zE, zF])
              refine tK 1 (v := ?_) rfl hHeld ?_ ?_
              rotate_left
              · (intro wx hSx; obtain ⟨⟨q0, q1⟩, c0, c1⟩ : (_ ∧ _) ∧ _ ∧ _ := ⟨hSx.1, HC.out _ hSx.2.2⟩; go_simp; (try with_reducible rfl))
              (try simp only [Act.put, zA, zB, zC, zD, zE, zF])
              refine tK 2 (v := ?_) rfl hHeld ?_ ?_
              rotate_left
              · (intro wx hSx; obtain ⟨⟨q0, q1⟩, c0, c1⟩ : (_ ∧ _) ∧ _ ∧ _ := ⟨hSx.1, HC.out _ hSx.2.2⟩; go_simp; (try with_reducible rfl))
              (try simp only [Act.put, zA, zB, zC, zD, zE, zF])
              refine tK 3 (v := ?_) rfl hHeld ?_ ?_
              rotate_left
              · (intro wx hSx; obtain ⟨⟨q0, q1⟩, c0, c1⟩ : (_ ∧ _) ∧ _ ∧ _ := ⟨hSx.1, HC.out _ hSx.2.2⟩; go_simp; (try with_reducible rfl))
              (try simp only [Act.put, zA, zB, zC, zD, zE, zF])
              refine tK 4 (v := ?_) rfl hHeld ?_ ?_
              rotate_left
              · (intro wx hSx; obtain ⟨⟨q0, q1⟩, c0, c1⟩ : (_ ∧ _) ∧ _ ∧ _ := ⟨hSx.1, HC.out _ hSx.2.2⟩; go_simp; (try with_reducible rfl))
              (try simp only [Act.put, zA, zB, zC, zD, zE, zF])
              refine tK 5 (v := ?_) rfl hHeld ?_ ?_
              rotate_left
              · (intro wx hSx; obtain ⟨⟨q0, q1⟩, c0, c1⟩ : (_ ∧ _) ∧ _ ∧ _ := ⟨hSx.1, HC.out _ hSx.2.2⟩; go_simp; (try with_reducible rfl))
              (try simp only [Act.put, zA, zB, zC, zD, zE, zF])
              refine tK 6 (v := ?_) rfl hHeld ?_ ?_
              rotate_left
              · (intro wx hSx; obtain ⟨⟨q0, q1⟩, c0, c1⟩ : (_ ∧ _) ∧ _ ∧ _ := ⟨hSx.1, HC.out _ hSx.2.2⟩; go_simp; (try with_reducible rfl))
              (try simp only [Act.put, zA, zB, zC, zD, zE, zF])
              refine tK 7 (v := ?_) rfl hHeld ?_ ?_
              rotate_left
              · (intro wx hSx; obtain ⟨⟨q0, q1⟩, c0, c1⟩ : (_ ∧ _) ∧ _ ∧ _ := ⟨hSx.1, HC.out _ hSx.2.2⟩; go_simp; (try with_reducible rfl))
              (try simp only [Act.put, zA, zB, zC, zD, zE, zF])
              refine tK 8 (v := ?_) rfl hHeld ?_ ?_
              rotate_left
              · (intro wx hSx; obtain ⟨⟨q0, q1⟩, c0, c1⟩ : (_ ∧ _) ∧ _ ∧ _ := ⟨hSx.1, HC.out _ hSx.2.2⟩; go_simp; (try with_reducible rfl))
              (try simp only [Act.put, zA, zB, zC, zD, zE, zF])
              refine tK 9 (v := ?_) rfl hHeld ?_ ?_
              rotate_left
              · (intro wx hSx; obtain ⟨⟨q0, q1⟩, c0, c1⟩ : (_ ∧ _) ∧ _ ∧ _ := ⟨hSx.1, HC.out _ hSx.2.2⟩; go_simp; (try with_reducible rfl))
              (try simp only [Act.put, zA, zB, zC, zD, zE, zF])
              refine tK 10 (v := ?_) rfl hHeld ?_ ?_
              rotate_left
              · (intro wx hSx; obtain ⟨⟨q0, q1⟩, c0, c1⟩ : (_ ∧ _) ∧ _ ∧ _ := ⟨hSx.1, HC.out _ hSx.2.2⟩; go_simp; (try with_reducible rfl))
              (try simp only [Act.put, zA, zB, zC, zD, zE, zF])
              refine wpAnyH_ready (rs := [11]) (by kernel_rfl) (by simp) ?_
              refine AllReadyH.cons rfl (fun K hK => ?_) AllReadyH.nil
              rw [if_pos (by rfl)]
              go_simp
              refine (HE.out _).mono ?_
              rintro e w1 ⟨rfl, hb1⟩
              have HH := LH (HH.out.next hb1)
              (try simp only [])
              refine hK.out _ _ HH.out (fun hHeld => ?_)
              clear hb1
              clear hK K
              (try simp only [Act.put, zA, zB, zC, zD, zE, zF])
              refine tK 12 (v := ?_) rfl hHeld ?_ ?_
              rotate_left
              · (intro wx hSx; obtain ⟨⟨q0, q1⟩, c0, c1⟩ : (_ ∧ _) ∧ _ ∧ _ := ⟨hSx.1, HC.out _ hSx.2.2⟩; go_simp; (try with_reducible rfl))
              (try simp only [Act.put, zA, zB, zC, zD, zE, zF])
              refine tK 13 (v := ?_) rfl hHeld ?_ ?_
              rotate_left
              · (intro wx hSx; obtain ⟨⟨q0, q1⟩, c0, c1⟩ : (_ ∧ _) ∧ _ ∧ _ := ⟨hSx.1, HC.out _ hSx.2.2⟩; go_simp; (try with_reducible rfl))
              (try simp only [Act.put, zA, zB, zC, zD, zE, zF])
              refine wpAnyH_done (by kernel_rfl) ?_ _
              clear hHeld
              go_wp2
              go_ret2
              have hce := HCE.out
              subst hce
              exact ⟨j, h, rfl, hjh, hhl, HP.out, HNJ.out, HP2.out, HN3.out, HH.out.2.2⟩
          · obtain rfl : h = l.length := by omega
            have hlt2d : decide ((l.length : Int) < (l.length : Int)) = false := decide_eq_false (by omega)
            go_upto_region 5 with fail
            refine wp_region_held_drew (S := HeldK w c) (by kernel_rfl) HH.out (fun hHeld => ?_)
            refine tK 0 (v := ?_) rfl hHeld ?_ ?_
            rotate_left
            · (intro wx hSx; obtain ⟨⟨q0, q1⟩, _⟩ : (_ ∧ _) ∧ True := ⟨hSx.1, trivial⟩; go_simp; (try with_reducible rfl))
            (try simp only [Act.put, zA, zC, zD, zE, zF])
            refine tK 1 (v := ?_) rfl hHeld ?_ ?_
            rotate_left
            · (intro wx hSx; obtain ⟨⟨q0, q1⟩, _⟩ : (_ ∧ _) ∧ True := ⟨hSx.1, trivial⟩; go_simp; (try with_reducible rfl))
            (try simp only [Act.put, zA, zB, zC, zD, zE, zF])
            refine tK 2 (v := ?_) rfl hHeld ?_ ?_
            rotate_left
            · (intro wx hSx; obtain ⟨⟨q0, q1⟩, _⟩ : (_ ∧ _) ∧ True := ⟨hSx.1, trivial⟩; go_simp; (try with_reducible rfl))
            (try simp only [Act.put, zA, zB, zC, zD, zE, zF])
            refine tK 3 (v := ?_) rfl hHeld ?_ ?_
            rotate_left
            · (intro wx hSx; obtain ⟨⟨q0, q1⟩, _⟩ : (_ ∧ _) ∧ True := ⟨hSx.1, trivial⟩; go_simp; (try with_reducible rfl))
            (try simp only [Act.put, zA, zB, zC, zD, zE, zF])
            refine tK 4 (v := ?_) rfl hHeld ?_ ?_
            rotate_left
            · (intro wx hSx; obtain ⟨⟨q0, q1⟩, _⟩ : (_ ∧ _) ∧ True := ⟨hSx.1, trivial⟩; go_simp; (try with_reducible rfl))
            (try simp only [Act.put, zA, zB, zC, zD, zE, zF])
            refine tN 5 rfl hHeld ?_
            (try simp only [Act.put, zA, zB, zC, zD, zE, zF])
            refine tN 6 rfl hHeld ?_
            (try simp only [Act.put, zA, zB, zC, zD, zE, zF])
            refine tN 7 rfl hHeld ?_
            (try simp only [Act.put, zA, zB, zC, zD, zE, zF])
            refine tN 8 rfl hHeld ?_
            (try simp only [Act.put, zA, zB, zC, zD, zE, zF])
            refine tN 9 rfl hHeld ?_
            (try simp only [Act.put, zA, zB, zC, zD, zE, zF])
            refine tN 10 rfl hHeld ?_
            (try simp only [Act.put, zA, zB, zC, zD, zE, zF])
            refine tN 11 rfl hHeld ?_
            (try simp only [Act.put, zA, zB, zC, zD, zE, zF])
            refine tN 12 rfl hHeld ?_
            (try simp only [Act.put, zA, zB, zC, zD, zE, zF])
            refine tK 13 (v := ?_) rfl hHeld ?_ ?_
            rotate_left
            · (intro wx hSx; obtain ⟨⟨q0, q1⟩, _⟩ : (_ ∧ _) ∧ True := ⟨hSx.1, trivial⟩; go_simp; (try with_reducible rfl))
            (try simp only [Act.put, zA, zB, zC, zD, zE, zF])
            refine wpAnyH_done (by kernel_rfl) ?_ _
            clear hHeld
            go_wp2
            go_ret2
            exact ⟨j, l.length, rfl, hjh, hhl, HP.out, HNJ.out, HP2.out, fun hx => absurd hx (Nat.lt_irrefl _), HH.out.2.2⟩
    · have hltd : decide ((j : Int) < (l.length : Int)) = false := decide_eq_false (by omega)
      have HNJ : Hid (∀ hx : j < l.length, ¬ l[j].off + (l[j].data.size : Int) < c.off) := LH (fun hx => absurd hx hlt)
      go_upto_region 2 with fail
      refine wp_region_held_drew (S := HeldK w c) (by kernel_rfl) HH.out (fun hHeld => ?_)
      refine tK 0 (v := ?_) rfl hHeld ?_ ?_
      rotate_left
      · (intro wx hSx; obtain ⟨⟨q0, q1⟩, _⟩ : (_ ∧ _) ∧ True := ⟨hSx.1, trivial⟩; go_simp; (try with_reducible rfl))
      (try simp only [Act.put, zA, zC, zD, zE, zF])
      refine tK 1 (v := ?_) rfl hHeld ?_ ?_
      rotate_left
      · (intro wx hSx; obtain ⟨⟨q0, q1⟩, _⟩ : (_ ∧ _) ∧ True := ⟨hSx.1, trivial⟩; go_simp; (try with_reducible rfl))
      (try simp only [Act.put, zA, zB, zC, zD, zE, zF])
      refine tK 2 (v := ?_) rfl hHeld ?_ ?_
      rotate_left
      · (intro wx hSx; obtain ⟨⟨q0, q1⟩, _⟩ : (_ ∧ _) ∧ True := ⟨hSx.1, trivial⟩; go_simp; (try with_reducible rfl))
      (try simp only [Act.put, zA, zB, zC, zD, zE, zF])
      refine tK 3 (v := ?_) rfl hHeld ?_ ?_
      rotate_left
      · (intro wx hSx; obtain ⟨⟨q0, q1⟩, _⟩ : (_ ∧ _) ∧ True := ⟨hSx.1, trivial⟩; go_simp; (try with_reducible rfl))
      (try simp only [Act.put, zA, zB, zC, zD, zE, zF])
      refine tK 4 (v := ?_) rfl hHeld ?_ ?_
      rotate_left
      · (intro wx hSx; obtain ⟨⟨q0, q1⟩, _⟩ : (_ ∧ _) ∧ True := ⟨hSx.1, trivial⟩; go_simp; (try with_reducible rfl))
      (try simp only [Act.put, zA, zB, zC, zD, zE, zF])
      refine tN 5 rfl hHeld ?_
      (try simp only [Act.put, zA, zB, zC, zD, zE, zF])
      refine tN 6 rfl hHeld ?_
      (try simp only [Act.put, zA, zB, zC, zD, zE, zF])
      refine tN 7 rfl hHeld ?_
      (try simp only [Act.put, zA, zB, zC, zD, zE, zF])
      refine tN 8 rfl hHeld ?_
      (try simp only [Act.put, zA, zB, zC, zD, zE, zF])
      refine tN 9 rfl hHeld ?_
      (try simp only [Act.put, zA, zB, zC, zD, zE, zF])
      refine tN 10 rfl hHeld ?_
      (try simp only [Act.put, zA, zB, zC, zD, zE, zF])
      refine tN 11 rfl hHeld ?_
      (try simp only [Act.put, zA, zB, zC, zD, zE, zF])
      refine tN 12 rfl hHeld ?_
      (try simp only [Act.put, zA, zB, zC, zD, zE, zF])
      refine tK 13 (v := ?_) rfl hHeld ?_ ?_
      rotate_left
      · (intro wx hSx; obtain ⟨⟨q0, q1⟩, _⟩ : (_ ∧ _) ∧ True := ⟨hSx.1, trivial⟩; go_simp; (try with_reducible rfl))
      (try simp only [Act.put, zA, zB, zC, zD, zE, zF])
      refine wpAnyH_done (by kernel_rfl) ?_ _
      clear hHeld hltd
      have hjl := hj
      go_wp2
      go_loopw [7] (fun i wr => ∃ h : Nat, j ≤ h ∧ h ≤ l.length ∧ i = .int .i64 h ∧ (∀ k (hk : k < l.length), j ≤ k → k < h → l[k].off ≤ c.off + (c.data.size : Int)) ∧ HeldK w c wr) (fun i _ => l.length - (intOf i).toNat)
      case atStart => exact ⟨j, Nat.le_refl _, hjl, rfl, fun k _ h1 h2 => by omega, HH.out⟩
      case round =>
        obtain ⟨h, hjh, hhl, rfl, hp2, hh⟩ := hrel
        have HP2 := LH hp2
        have HH := LH hh.drew
        clear hp2 hh
        by_cases hlt2 : h < l.length
        · obtain ⟨g2, off2, hA, hbB, c0, c1⟩ := HR.out.cells h hlt2
          subst hA
          have HSN : Hid (l[h].off ≤ c.off + (c.data.size : Int) → ∀ k (hk : k < l.length), j ≤ k → k < h + 1 → l[k].off ≤ c.off + (c.data.size : Int)) := LH (fun h3 k hk h1 h2 => by
            by_cases hkh : k = h
            · subst hkh; exact h3
            · exact HP2.out k hk h1 (by omega))
          have HST : Hid (∀ x, l[h] = x → ∀ hx : h < l.length, l[h].off = x.off) := LH (fun x hx _ => by rw [hx])
          generalize hxe : l[h] = x at *
          have HXO := LH (HST.out x rfl)
          have HC : Hid (∀ W, Below w.heap.size w W → W.cell? ⟨g2, off2 + h * 2, none⟩ = some (.int .i64 x.off) ∧ W.cell? ⟨g2, off2 + h * 2 + 1, none⟩ = some (.string x.data)) := LH fun W h => ⟨(h.cell (p := ⟨g2, off2 + _, none⟩) (by show g2 < _; omega)).trans c0, (h.cell (p := ⟨g2, off2 + _ + 1, none⟩) (by show g2 < _; omega)).trans c1⟩
          have HE := LH HEC.out
          have hlt2d : decide ((h : Int) < (l.length : Int)) = true := decide_eq_true (by omega)
          clear c0 c1 hxe HST
          generalize hce : c.off + (c.data.size : Int) = ce at *
          have HCE := LH hce.symm
          clear hce
          by_cases hle : x.off ≤ ce
          · have hd : decide (x.off ≤ ce) = true := decide_eq_true hle
            have HP3 := LH (HSN.out hle)
            clear hle HSN
            go_upto_region 5 with fail
            refine wp_region_held_drew (S := HeldK w c) (by kernel_rfl) HH.out (fun hHeld => ?_)
            refine tK 0 (v := ?_) rfl hHeld ?_ ?_
            rotate_left
            · (intro wx hSx; obtain ⟨⟨q0, q1⟩, c0, c1⟩ : (_ ∧ _) ∧ _ ∧ _ := ⟨hSx.1, HC.out _ hSx.2.2⟩; go_simp; (try with_reducible rfl))
            (try simp only [Act.put, zA, zC, zD, zE, zF])
            refine tK 1 (v := ?_) rfl hHeld ?_ ?_
            rotate_left
            · (intro wx hSx; obtain ⟨⟨q0, q1⟩, c0, c1⟩ : (_ ∧ _) ∧ _ ∧ _ := ⟨hSx.1, HC.out _ hSx.2.2⟩; go_simp; (try with_reducible rfl))
            (try simp only [Act.put, zA, zB, zC, zD, zE, zF])
            refine tK 2 (v := ?_) rfl hHeld ?_ ?_
            rotate_left
            · (intro wx hSx; obtain ⟨⟨q0, q1⟩, c0, c1⟩ : (_ ∧ _) ∧ _ ∧ _ := ⟨hSx.1, HC.out _ hSx.2.2⟩; go_simp; (try with_reducible rfl))
            (try simp only [Act.put, zA, zB, zC, zD, zE, zF])
            refine tK 3 (v := ?_) rfl hHeld ?_ ?_
            rotate_left
            · (intro wx hSx; obtain ⟨⟨q0, q1⟩, c0, c1⟩ : (_ ∧ _) ∧ _ ∧ _ := ⟨hSx.1, HC.out _ hSx.2.2⟩; go_simp; (try with_reducible rfl))
            (try simp only [Act.put, zA, zB, zC, zD, zE, zF])
            refine tK 4 (v := ?_) rfl hHeld ?_ ?_
            rotate_left
            · (intro wx hSx; obtain ⟨⟨q0, q1⟩, c0, c1⟩ : (_ ∧ _) ∧ _ ∧ _ := ⟨hSx.1, HC.out _ hSx.2.2⟩; go_simp; (try with_reducible rfl))
            (try simp only [Act.put, zA, zB, zC, zD, zE, zF])
            refine tK 5 (v := ?_) rfl hHeld ?_ ?_
            rotate_left
            · (intro wx hSx; obtain ⟨⟨q0, q1⟩, c0, c1⟩ : (_ ∧ _) ∧ _ ∧ _ := ⟨hSx.1, HC.out _ hSx.2.2⟩; go_simp; (try with_reducible rfl))
            (try simp only [Act.put, zA, zB, zC, zD, zE, zF])
            refine tK 6 (v := ?_) rfl hHeld ?_ ?_
            rotate_left
            · (intro wx hSx; obtain ⟨⟨q0, q1⟩, c0, c1⟩ : (_ ∧ _) ∧ _ ∧ _ := ⟨hSx.1, HC.out _ hSx.2.2⟩; go_simp; (try with_reducible rfl))
            (try simp only [Act.put, zA, zB, zC, zD, zE, zF])
            refine tK 7 (v := ?_) rfl hHeld ?_ ?_
            rotate_left
            · (intro wx hSx; obtain ⟨⟨q0, q1⟩, c0, c1⟩ : (_ ∧ _) ∧ _ ∧ _ := ⟨hSx.1, HC.out _ hSx.2.2⟩; go_simp; (try with_reducible rfl))
            (try simp only [Act.put, zA, zB, zC, zD, zE, zF])
            refine tK 8 (v := ?_) rfl hHeld ?_ ?_
            rotate_left
            · (intro wx hSx; obtain ⟨⟨q0, q1⟩, c0, c1⟩ : (_ ∧ _) ∧ _ ∧ _ := ⟨hSx.1, HC.out _ hSx.2.2⟩; go_simp; (try with_reducible rfl))
            (try simp only [Act.put, zA, zB, zC, zD, zE, zF])
            refine tK 9 (v := ?_) rfl hHeld ?_ ?_
            rotate_left
            · (intro wx hSx; obtain ⟨⟨q0, q1⟩, c0, c1⟩ : (_ ∧ _) ∧ _ ∧ _ := ⟨hSx.1, HC.out _ hSx.2.2⟩; go_simp; (try with_reducible rfl))
            (try simp only [Act.put, zA, zB, zC, zD, zE, zF])
            refine tK 10 (v := ?_) rfl hHeld ?_ ?_
            rotate_left
            · (intro wx hSx; obtain ⟨⟨q0, q1⟩, c0, c1⟩ : (_ ∧ _) ∧ _ ∧ _ := ⟨hSx.1, HC.out _ hSx.2.2⟩; go_simp; (try with_reducible rfl))
            (try simp only [Act.put, zA, zB, zC, zD, zE, zF])
            refine wpAnyH_ready (rs := [11]) (by kernel_rfl) (by simp) ?_
            refine AllReadyH.cons rfl (fun K hK => ?_) AllReadyH.nil
            rw [if_pos (by rfl)]
            go_simp
            refine (HE.out _).mono ?_
            rintro e w1 ⟨rfl, hb1⟩
            have HH := LH (HH.out.next hb1)
            (try simp only [])
            refine hK.out _ _ HH.out (fun hHeld => ?_)
            clear hb1
            clear hK K
            (try simp only [Act.put, zA, zB, zC, zD, zE, zF])
            refine tK 12 (v := ?_) rfl hHeld ?_ ?_
            rotate_left
            · (intro wx hSx; obtain ⟨⟨q0, q1⟩, c0, c1⟩ : (_ ∧ _) ∧ _ ∧ _ := ⟨hSx.1, HC.out _ hSx.2.2⟩; go_simp; (try with_reducible rfl))
            (try simp only [Act.put, zA, zB, zC, zD, zE, zF])
            refine tK 13 (v := ?_) rfl hHeld ?_ ?_
            rotate_left
            · (intro wx hSx; obtain ⟨⟨q0, q1⟩, c0, c1⟩ : (_ ∧ _) ∧ _ ∧ _ := ⟨hSx.1, HC.out _ hSx.2.2⟩; go_simp; (try with_reducible rfl))
            (try simp only [Act.put, zA, zB, zC, zD, zE, zF])
            refine wpAnyH_done (by kernel_rfl) ?_ _
            clear hHeld
            go_wp2
            go_roundw
            case rel => exact ⟨h + 1, by omega, by omega, by go_num, HP3.out, HH.out⟩
            case measure => simp [intOf]; omega
          · have hd : decide (x.off ≤ ce) = false := decide_eq_false hle
            have HN3 : Hid (∀ hx : h < l.length, ce < l[h].off) := LH (fun hx => by rw [HXO.out hx]; omega)
            clear hle HSN
            go_upto_region 5 with fail
            refine wp_region_held_drew (S := HeldK w c) (by kernel_rfl) HH.out (fun hHeld => ?_)
            refine tK 0 (v := ?_) rfl hHeld ?_ ?_
            rotate_left
            · (intro wx hSx; obtain ⟨⟨q0, q1⟩, c0, c1⟩ : (_ ∧ _) ∧ _ ∧ _ := ⟨hSx.1, HC.out _ hSx.2.2⟩; go_simp; (try with_reducible rfl))
            (try simp only [Act.put, zA, zC, zD, zE, zF])
            refine tK 1 (v := ?_) rfl hHeld ?_ ?_
            rotate_left
            · (intro wx hSx; obtain ⟨⟨q0, q1⟩, c0, c1⟩ : (_ ∧ _) ∧ _ ∧ _ := ⟨hSx.1, HC.out _ hSx.2.2⟩; go_simp; (try with_reducible rfl))
            (try simp only [Act.put, zA, zB, zC, zD, zE, zF])
            refine tK 2 (v := ?_) rfl hHeld ?_ ?_
            rotate_left
            · (intro wx hSx; obtain ⟨⟨q0, q1⟩, c0, c1⟩ : (_ ∧ _) ∧ _ ∧ _ := ⟨hSx.1, HC.out _ hSx.2.2⟩; go_simp; (try with_reducible rfl))
            (try simp only [Act.put, zA, zB, zC, zD, zE, zF])
            refine tK 3 (v := ?_) rfl hHeld ?_ ?_
            rotate_left
            · (intro wx hSx; obtain ⟨⟨q0, q1⟩, c0, c1⟩ : (_ ∧ _) ∧ _ ∧ _ := ⟨hSx.1, HC.out _ hSx.2.2⟩; go_simp; (try with_reducible rfl))
            (try simp only [Act.put, zA, zB, zC, zD, zE, zF])
            refine tK 4 (v := ?_) rfl hHeld ?_ ?_
            rotate_left
            · (intro wx hSx; obtain ⟨⟨q0, q1⟩, c0, c1⟩ : (_ ∧ _) ∧ _ ∧ _ := ⟨hSx.1, HC.out _ hSx.2.2⟩; go_simp; (try with_reducible rfl))
            (try simp only [Act.put, zA, zB, zC, zD, zE, zF])
            refine tK 5 (v := ?_) rfl hHeld ?_ ?_
            rotate_left
            · (intro wx hSx; obtain ⟨⟨q0, q1⟩, c0, c1⟩ : (_ ∧ _) ∧ _ ∧ _ := ⟨hSx.1, HC.out _ hSx.2.2⟩; go_simp; (try with_reducible rfl))
            (try simp only [Act.put, zA, zB, zC, zD, zE, zF])
            refine tK 6 (v := ?_) rfl hHeld ?_ ?_
            rotate_left
            · (intro wx hSx; obtain ⟨⟨q0, q1⟩, c0, c1⟩ : (_ ∧ _) ∧ _ ∧ _ := ⟨hSx.1, HC.out _ hSx.2.2⟩; go_simp; (try with_reducible rfl))
            (try simp only [Act.put, zA, zB, zC, zD, zE, zF])
            refine tK 7 (v := ?_) rfl hHeld ?_ ?_
            rotate_left
            · (intro wx hSx; obtain ⟨⟨q0, q1⟩, c0, c1⟩ : (_ ∧ _) ∧ _ ∧ _ := ⟨hSx.1, HC.out _ hSx.2.2⟩; go_simp; (try with_reducible rfl))
            (try simp only [Act.put, zA, zB, zC, zD, zE, zF])
            refine tK 8 (v := ?_) rfl hHeld ?_ ?_
            rotate_left
            · (intro wx hSx; obtain ⟨⟨q0, q1⟩, c0, c1⟩ : (_ ∧ _) ∧ _ ∧ _ := ⟨hSx.1, HC.out _ hSx.2.2⟩; go_simp; (try with_reducible rfl))
            (try simp only [Act.put, zA, zB, zC, zD, zE, zF])
            refine tK 9 (v := ?_) rfl hHeld ?_ ?_
            rotate_left
            · (intro wx hSx; obtain ⟨⟨q0, q1⟩, c0, c1⟩ : (_ ∧ _) ∧ _ ∧ _ := ⟨hSx.1, HC.out _ hSx.2.2⟩; go_simp; (try with_reducible rfl))
            (try simp only [Act.put, zA, zB, zC, zD, zE, zF])
            refine tK 10 (v := ?_) rfl hHeld ?_ ?_
            rotate_left
            · (intro wx hSx; obtain ⟨⟨q0, q1⟩, c0, c1⟩ : (_ ∧ _) ∧ _ ∧ _ := ⟨hSx.1, HC.out _ hSx.2.2⟩; go_simp; (try with_reducible rfl))
            (try simp only [Act.put, zA, zB, zC, zD, zE, zF])
            refine wpAnyH_ready (rs := [11]) (by kernel_rfl) (by simp) ?_
            refine AllReadyH.cons rfl (fun K hK => ?_) AllReadyH.nil
            rw [if_pos (by rfl)]
            go_simp
            refine (HE.out _).mono ?_
            rintro e w1 ⟨rfl, hb1⟩
            have HH := LH (HH.out.next hb1)
            (try simp only [])
            refine hK.out _ _ HH.out (fun hHeld => ?_)
            clear hb1
            clear hK K
            (try simp only [Act.put, zA, zB, zC, zD, zE, zF])
            refine tK 12 (v := ?_) rfl hHeld ?_ ?_
            rotate_left
            · (intro wx hSx; obtain ⟨⟨q0, q1⟩, c0, c1⟩ : (_ ∧ _) ∧ _ ∧ _ := ⟨hSx.1, HC.out _ hSx.2.2⟩; go_simp; (try with_reducible rfl))
            (try simp only [Act.put, zA, zB, zC, zD, zE, zF])
            refine tK 13 (v := ?_) rfl hHeld ?_ ?_
            rotate_left
            · (intro wx hSx; obtain ⟨⟨q0, q1⟩, c0, c1⟩ : (_ ∧ _) ∧ _ ∧ _ := ⟨hSx.1, HC.out _ hSx.2.2⟩; go_simp; (try with_reducible rfl))
            (try simp only [Act.put, zA, zB, zC, zD, zE, zF])
            refine wpAnyH_done (by kernel_rfl) ?_ _
            clear hHeld
            go_wp2
            go_ret2
            have hce := HCE.out
            subst hce
            exact ⟨j, h, rfl, hjh, hhl, HP.out, HNJ.out, HP2.out, HN3.out, HH.out.2.2⟩
        · obtain rfl : h = l.length := by omega
          have hlt2d : decide ((l.length : Int) < (l.length : Int)) = false := decide_eq_false (by omega)
          go_upto_region 5 with fail
          refine wp_region_held_drew (S := HeldK w c) (by kernel_rfl) HH.out (fun hHeld => ?_)
          refine tK 0 (v := ?_) rfl hHeld ?_ ?_
          rotate_left
          · (intro wx hSx; obtain ⟨⟨q0, q1⟩, _⟩ : (_ ∧ _) ∧ True := ⟨hSx.1, trivial⟩; go_simp; (try with_reducible rfl))
          (try simp only [Act.put, zA, zC, zD, zE, zF])
          refine tK 1 (v := ?_) rfl hHeld ?_ ?_
          rotate_left
          · (intro wx hSx; obtain ⟨⟨q0, q1⟩, _⟩ : (_ ∧ _) ∧ True := ⟨hSx.1, trivial⟩; go_simp; (try with_reducible rfl))
          (try simp only [Act.put, zA, zB, zC, zD, zE, zF])
          refine tK 2 (v := ?_) rfl hHeld ?_ ?_
          rotate_left
          · (intro wx hSx; obtain ⟨⟨q0, q1⟩, _⟩ : (_ ∧ _) ∧ True := ⟨hSx.1, trivial⟩; go_simp; (try with_reducible rfl))
          (try simp only [Act.put, zA, zB, zC, zD, zE, zF])
          refine tK 3 (v := ?_) rfl hHeld ?_ ?_
          rotate_left
          · (intro wx hSx; obtain ⟨⟨q0, q1⟩, _⟩ : (_ ∧ _) ∧ True := ⟨hSx.1, trivial⟩; go_simp; (try with_reducible rfl))
          (try simp only [Act.put, zA, zB, zC, zD, zE, zF])
          refine tK 4 (v := ?_) rfl hHeld ?_ ?_
          rotate_left
          · (intro wx hSx; obtain ⟨⟨q0, q1⟩, _⟩ : (_ ∧ _) ∧ True := ⟨hSx.1, trivial⟩; go_simp; (try with_reducible rfl))
          (try simp only [Act.put, zA, zB, zC, zD, zE, zF])
          refine tN 5 rfl hHeld ?_
          (try simp only [Act.put, zA, zB, zC, zD, zE, zF])
          refine tN 6 rfl hHeld ?_
          (try simp only [Act.put, zA, zB, zC, zD, zE, zF])
          refine tN 7 rfl hHeld ?_
          (try simp only [Act.put, zA, zB, zC, zD, zE, zF])
          refine tN 8 rfl hHeld ?_
          (try simp only [Act.put, zA, zB, zC, zD, zE, zF])
          refine tN 9 rfl hHeld ?_
          (try simp only [Act.put, zA, zB, zC, zD, zE, zF])
          refine tN 10 rfl hHeld ?_
          (try simp only [Act.put, zA, zB, zC, zD, zE, zF])
          refine tN 11 rfl hHeld ?_
          (try simp only [Act.put, zA, zB, zC, zD, zE, zF])
          refine tN 12 rfl hHeld ?_
          (try simp only [Act.put, zA, zB, zC, zD, zE, zF])
          refine tK 13 (v := ?_) rfl hHeld ?_ ?_
          rotate_left
          · (intro wx hSx; obtain ⟨⟨q0, q1⟩, _⟩ : (_ ∧ _) ∧ True := ⟨hSx.1, trivial⟩; go_simp; (try with_reducible rfl))
          (try simp only [Act.put, zA, zB, zC, zD, zE, zF])
          refine wpAnyH_done (by kernel_rfl) ?_ _
          clear hHeld
          go_wp2
          go_ret2
          exact ⟨j, l.length, rfl, hjh, hhl, HP.out, HNJ.out, HP2.out, fun hx => absurd hx (Nat.lt_irrefl _), HH.out.2.2⟩
end Go.Proofs.YtdaoaedkjoknmaaGreat
