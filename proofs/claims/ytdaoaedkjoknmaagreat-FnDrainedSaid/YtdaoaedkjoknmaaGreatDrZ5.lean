/-
  Contracts and lemmas for the law on draining.
-/
import Derived.Test.YtdaoaedkjoknmaaGreatDrZ0
import Derived.Test.YtdaoaedkjoknmaaGreatDrZ1
set_option maxRecDepth 1000000
set_option maxHeartbeats 8000000
namespace Go.Proofs.YtdaoaedkjoknmaaGreat
open Go.RowKit Go.Deep Go.Proofs.YtdaoaedkjoknmaaGreat.Num

theorem ifits (o : Int) (d : ByteArray) (w : World) (hd : d.size ≤ maxLen) :
    Calls Tryz.prog 47 #[.int .i64 o, .string d] w fun e w' => e = .returned (.bool (decide (o ≤ 4611686018427387903 - (d.size : Int)))) ∧ w' = w := by
  unfold maxLen at hd
  have hw : wrap64 (4611686018427387903 - (d.size : Int)) = 4611686018427387903 - (d.size : Int) := by unfold wrap64; omega
  go_enter Tryz.func47, Tryz.ntmps47
  go_wp2
  go_ret
  exact ⟨rfl, rfl⟩

theorem iendc (c : Ch) (w : World) (h : -9223372036854775808 ≤ c.off + (c.data.size : Int) ∧ c.off + (c.data.size : Int) ≤ 9223372036854775807) :
    Calls Tryz.prog 135 #[chV c] w fun e w' => e = .returned (.int .i64 (c.off + (c.data.size : Int))) ∧ Below w.heap.size w w' := by
  have HW : Hid (wrap64 (c.off + (c.data.size : Int)) = c.off + (c.data.size : Int)) := LH (by unfold wrap64; omega)
  clear h
  have HB := LH ((Below.refl w.heap.size w).alloc (Nat.le_refl _) (.cells (chC c) 140))
  go_enter Tryz.func135, Tryz.ntmps135
  go_wp2
  go_ret
  exact ⟨congrArg (fun z => Ending.returned (.int .i64 z)) HW.out, HB.out⟩

theorem iisb (b : Bf) (A : Option Addr) (cap B : Nat) (w : World) (hB : B ≤ w.heap.size) (hr : Chs w B A b.chs) (hn : b.chs.length ≤ 1000000000) (hi : inB b.chs) (hnx : -9223372036854775808 ≤ b.next ∧ b.next ≤ 9223372036854775807) :
    Calls Tryz.prog 107 #[bfV b.next (.slice A b.chs.length cap)] w fun e w' => e = .returned (.bool (decide (okB b))) ∧ Below w.heap.size w w' := by
  have HR := LH hr
  have HI := LH hi
  have HOK : Hid (okB b ↔ okR (b.next - 1) (b.chs.map ckR) ∧ 0 ≤ b.next ∧ b.next ≤ 4611686018427387903) := LH Iff.rfl
  have H0 := LH (HeldB.start w b.next (.slice A b.chs.length cap))
  clear hr hi
  generalize b.next = nx at *
  generalize b.chs = l at *
  by_cases n0 : nx < 0
  · have hd0 : decide (nx < 0) = true := decide_eq_true n0
    have HN : Hid (¬ okB b) := LH (fun h => by have := (HOK.out.1 h).2.1; omega)
    clear n0
    go_enter Tryz.func107, Tryz.ntmps107
    go_wp2
    go_ret
    exact ⟨by rw [decide_eq_false HN.out]; rfl, H0.out.2⟩
  have hd0 : decide (nx < 0) = false := decide_eq_false n0
  by_cases n1 : 4611686018427387903 < nx
  · have hd1 : decide (4611686018427387903 < nx) = true := decide_eq_true n1
    have HN : Hid (¬ okB b) := LH (fun h => by have := (HOK.out.1 h).2.2; omega)
    clear n0 n1
    go_enter Tryz.func107, Tryz.ntmps107
    go_wp2
    go_ret
    exact ⟨by rw [decide_eq_false HN.out]; rfl, H0.out.2⟩
  have hd1 : decide (4611686018427387903 < nx) = false := decide_eq_false n1
  obtain ⟨e0, he0⟩ : ∃ e0, nx - 1 = e0 := ⟨_, rfl⟩
  have HW0 : Hid (wrap64 (nx - 1) = e0) := LH (by unfold wrap64; omega)
  have hE : -1 ≤ e0 ∧ e0 ≤ 4611686018427387903 := by omega
  have hE1 := hE.1
  have hE2 := hE.2
  have HNX : Hid (0 ≤ nx ∧ nx ≤ 4611686018427387903) := LH ⟨by omega, by omega⟩
  rw [he0] at HOK
  clear n0 n1 he0 hE
  go_enter Tryz.func107, Tryz.ntmps107
  go_wp2
  clear hd0 hd1
  go_loopw [3, 20] (fun v i wr => ∃ (j : Nat) (p : Int), j ≤ l.length ∧ i = .int .i64 j ∧ v = .int .i64 p ∧ -1 ≤ p ∧ p ≤ 4611686018427387903 ∧ (okR e0 (l.map ckR) ↔ okR p ((l.drop j).map ckR)) ∧ Below w.heap.size w wr) (fun _ i _ => l.length - (intOf i).toNat)
  case atStart => exact ⟨0, e0, Nat.zero_le _, rfl, congrArg (Value.int .i64) HW0.out, hE1, hE2, by rw [List.drop_zero], H0.out.2⟩
  case round =>
    obtain ⟨j, p, hj, rfl, rfl, hp1, hp2, hpo, hh⟩ := hrel
    have HP := LH hpo
    have HH := LH hh
    clear hpo hh H0
    by_cases hlt : j < l.length
    · obtain ⟨g, off, rfl, hbB, c0, c1⟩ := (HR.out.below hB HH.out).cells j hlt
      have hin := HI.out l[j] (List.getElem_mem hlt)
      have HD : Hid ((l.drop j).map ckR = ckR l[j] :: (l.drop (j + 1)).map ckR) := LH (by rw [List.drop_eq_getElem_cons hlt, List.map_cons])
      generalize l[j] = c at *
      have hds := hin.1
      unfold maxLen at hin
      have hemp := data_empty c.data
      have HH1 := LH (HH.out.alloc HH.out.size (.cells (chC c) 140))
      by_cases h1 : c.off ≤ p
      · have HN : Hid (¬ okB b) := LH (fun h => by
          have := HP.out.1 (HOK.out.1 h).1
          rw [HD.out] at this
          have := this.1
          simp only [ckR] at this
          omega)
        have hd1 : decide (c.off ≤ p) = true := decide_eq_true h1
        clear h1 hin hemp hds
        go_wp2
        go_ret
        exact ⟨by rw [decide_eq_false HN.out]; rfl, HH1.out⟩
      · have hd1 : decide (c.off ≤ p) = false := decide_eq_false h1
        by_cases h2 : c.data.size = 0
        · have HN : Hid (¬ okB b) := LH (fun h => by
            have := HP.out.1 (HOK.out.1 h).1
            rw [HD.out] at this
            have := this.2.1
            simp only [ckR] at this
            omega)
          rw [decide_eq_true h2] at hemp
          clear h1 h2 hin hds
          go_wp2
          go_ret
          exact ⟨by rw [decide_eq_false HN.out]; rfl, HH1.out⟩
        · rw [decide_eq_false h2] at hemp
          have HF := LH fun W => ifits c.off c.data W hds
          by_cases h3 : c.off ≤ 4611686018427387903 - (c.data.size : Int)
          · rw [decide_eq_true h3] at HF
            have HE := LH fun W => iendc c W (by omega)
            have HP2 : Hid (okR e0 (l.map ckR) ↔ okR (c.off + (c.data.size : Int)) ((l.drop (j + 1)).map ckR)) := LH (by
              rw [HP.out, HD.out]
              exact ⟨fun h => h.2.2.2, fun h => ⟨by show p < c.off; omega, by show c.off < c.off + (c.data.size : Int); omega, by show c.off + (c.data.size : Int) ≤ _; omega, h⟩⟩)
            have hp3 : -1 ≤ c.off + (c.data.size : Int) ∧ c.off + (c.data.size : Int) ≤ 4611686018427387903 := by omega
            clear h1 h2 h3 hin hds
            go_wp2_with fail
            refine (HF.out _).mono ?_
            rintro e w1 ⟨rfl, rfl⟩
            go_wp2_with fail
            refine (HE.out _).mono ?_
            rintro e w2 ⟨rfl, hb2⟩
            have HH2 := LH (HH1.out.trans (hb2.mono HH1.out.size))
            clear hb2
            generalize c.off + (c.data.size : Int) = q at *
            go_wp2
            go_roundw
            case rel => exact ⟨j + 1, q, hlt, by go_num, rfl, hp3.1, hp3.2, HP2.out, HH2.out⟩
            case measure => simp [intOf]; omega
          · rw [decide_eq_false h3] at HF
            have HN : Hid (¬ okB b) := LH (fun h => by
              have := HP.out.1 (HOK.out.1 h).1
              rw [HD.out] at this
              have := this.2.2.1
              simp only [ckR] at this
              omega)
            clear h1 h2 h3 hin hds
            go_wp2_with fail
            refine (HF.out _).mono ?_
            rintro e w1 ⟨rfl, rfl⟩
            go_wp2
            go_ret
            exact ⟨by rw [decide_eq_false HN.out]; rfl, HH1.out⟩
    · obtain rfl : j = l.length := by omega
      have HN : Hid (okB b) := LH (by
        rw [HOK.out]
        refine ⟨HP.out.2 ?_, HNX.out⟩
        rw [List.drop_length]
        trivial)
      go_wp2
      go_ret
      exact ⟨by rw [decide_eq_true HN.out]; rfl, HH.out⟩

theorem iendof (b : Bf) (A : Option Addr) (cap B : Nat) (w : World) (hB : B ≤ w.heap.size) (hr : Chs w B A b.chs) (hn : b.chs.length ≤ 1000000000) (hi : inB b.chs) (hnx : -9223372036854775808 ≤ b.next ∧ b.next ≤ 9223372036854775807) :
    Calls Tryz.prog 133 #[bfV b.next (.slice A b.chs.length cap)] w fun e w' => e = .returned (.int .i64 (endB b)) ∧ Below w.heap.size w w' := by
  have HR := LH hr
  have HIS : Hid (∀ W, B ≤ W.heap.size → Chs W B A b.chs → Calls Tryz.prog 107 #[bfV b.next (.slice A b.chs.length cap)] W fun e w' => e = .returned (.bool (decide (okB b))) ∧ Below W.heap.size W w') := LH fun W h1 h2 => iisb b A cap B W h1 h2 hn hi hnx
  have H0 := LH (HeldB.start w b.next (.slice A b.chs.length cap))
  obtain ⟨q0, q1⟩ := H0.out.1.cells
  by_cases h0 : b.chs.length = 0
  · have HV := LH (endB_nil (b := b) (List.eq_nil_of_length_eq_zero h0))
    have hz : ((b.chs.length : Int) == 0) = true := by rw [h0]; rfl
    clear h0 hr hi hnx
    go_enter Tryz.func133, Tryz.ntmps133
    go_wp2
    go_ret
    exact ⟨by rw [HV.out]; rfl, H0.out.2⟩
  · have hz : ((b.chs.length : Int) == 0) = false := by simpa using h0
    by_cases hok : okB b
    · have HV := LH (endB_last hok (by omega))
      have hlt : b.chs.length - 1 < b.chs.length := by omega
      have hbd := (okR.below hok.1 (ckR b.chs[b.chs.length - 1]) (List.mem_map_of_mem (List.getElem_mem hlt)))
      have hbn : 0 ≤ b.next := hok.2.1
      obtain ⟨g, off, hA, hbB, c0, c1⟩ := HR.out.cells (b.chs.length - 1) hlt
      rw [decide_eq_true hok] at HIS
      obtain ⟨k, hk⟩ : ∃ k, b.chs.length - 1 = k := ⟨_, rfl⟩
      have hw : (b.chs.length : Int) - 1 = (k : Int) := by omega
      have hklt : k < b.chs.length := by omega
      simp only [hk] at c0 c1 HV hbd
      generalize b.chs[k] = c at *
      have hwe : c.off + (c.data.size : Int) ≤ 4611686018427387903 ∧ 0 ≤ c.off := by have h1 := hbd.1; have h2 := hbd.2.2; simp only [ckR] at h1 h2; omega
      have HE := LH fun W => iendc c W (by omega)
      subst hA
      have HC0 : Hid (∀ W, Below w.heap.size w W → W.cell? ⟨g, off + k * 2, none⟩ = some (.int .i64 c.off) ∧ W.cell? ⟨g, off + k * 2 + 1, none⟩ = some (.string c.data)) := LH fun W h => ⟨(h.cell (p := ⟨g, off + k * 2, none⟩) (by show g < _; omega)).trans c0, (h.cell (p := ⟨g, off + k * 2 + 1, none⟩) (by show g < _; omega)).trans c1⟩
      clear hok h0 hr hi hnx hbd hwe hbn c0 c1 hlt hk
      go_enter Tryz.func133, Tryz.ntmps133
      go_wp2_with fail
      refine (HIS.out _ (Nat.le_trans hB H0.out.2.size) (HR.out.below hB H0.out.2)).mono ?_
      rintro e w1 ⟨rfl, hb1⟩
      have H1 := LH (H0.out.next hb1)
      clear hb1 q0 q1
      obtain ⟨q0, q1⟩ := H1.out.1.cells
      obtain ⟨c0, c1⟩ := HC0.out w1 H1.out.2
      go_wp2_with fail
      refine (HE.out _).mono ?_
      rintro e w2 ⟨rfl, hb2⟩
      have H2 := LH (H1.out.next hb2)
      clear hb2 hw
      go_wp2
      go_ret
      exact ⟨by rw [HV.out]; rfl, H2.out.2⟩
    · have HV := LH (endB_bad hok)
      rw [decide_eq_false hok] at HIS
      clear hok h0 hr hi hnx
      go_enter Tryz.func133, Tryz.ntmps133
      go_wp2_with fail
      refine (HIS.out _ (Nat.le_trans hB H0.out.2.size) (HR.out.below hB H0.out.2)).mono ?_
      rintro e w1 ⟨rfl, hb1⟩
      have H1 := LH (H0.out.next hb1)
      clear hb1 q0 q1
      obtain ⟨q0, q1⟩ := H1.out.1.cells
      go_wp2
      go_ret
      exact ⟨by rw [HV.out]; rfl, H1.out.2⟩

theorem iready (b : Bf) (A : Option Addr) (cap B : Nat) (w : World) (hB : B ≤ w.heap.size) (hr : Chs w B A b.chs) (hn : b.chs.length ≤ 1000000000) (hi : inB b.chs) (hnx : -9223372036854775808 ≤ b.next ∧ b.next ≤ 9223372036854775807) :
    Calls Tryz.prog 110 #[bfV b.next (.slice A b.chs.length cap)] w fun e w' => e = .returned (.int .i64 (rdyB b : Nat)) ∧ Below w.heap.size w w' := by
  have HR := LH hr
  have HIS : Hid (∀ W, B ≤ W.heap.size → Chs W B A b.chs → Calls Tryz.prog 107 #[bfV b.next (.slice A b.chs.length cap)] W fun e w' => e = .returned (.bool (decide (okB b))) ∧ Below W.heap.size W w') := LH fun W h1 h2 => iisb b A cap B W h1 h2 hn hi hnx
  have HH := LH (HeldB.start w b.next (.slice A b.chs.length cap)).drew
  have HRD : Hid (rdyB b = if okB b then (match b.chs with | [] => 0 | c :: _ => if c.off = b.next then c.data.size else 0) else 0) := LH rfl
  obtain ⟨nx, l⟩ := b
  dsimp only at HR HIS HH hn HRD
  clear hr hi hnx
  cases l with
  | nil =>
    have hS0 := HH.out
    have HV : Hid (rdyB ⟨nx, []⟩ = 0) := LH (by rw [HRD.out]; split <;> rfl)
    clear HRD HIS
    go_enter Tryz.func110, Tryz.ntmps110
    go_wp2
    refine wp_region_held_drew (S := HeldB w nx (.slice A ([] : List Ch).length cap)) (by kernel_rfl) hS0 (fun hHeld => ?_)
    refine tK 0 (v := ?_) rfl hHeld ?_ ?_
    rotate_left
    · (intro wx hSx; obtain ⟨⟨q0, q1⟩, _⟩ : (_ ∧ _) ∧ True := ⟨hSx.1.cells, trivial⟩; go_simp; (try with_reducible rfl))
    (try simp only [Act.put, zA, zC, zD, zE, zF])
    refine tK 1 (v := ?_) rfl hHeld ?_ ?_
    rotate_left
    · (intro wx hSx; obtain ⟨⟨q0, q1⟩, _⟩ : (_ ∧ _) ∧ True := ⟨hSx.1.cells, trivial⟩; go_simp; (try with_reducible rfl))
    (try simp only [Act.put, zA, zB, zC, zD, zE, zF])
    refine tK 2 (v := ?_) rfl hHeld ?_ ?_
    rotate_left
    · (intro wx hSx; obtain ⟨⟨q0, q1⟩, _⟩ : (_ ∧ _) ∧ True := ⟨hSx.1.cells, trivial⟩; go_simp; (try with_reducible rfl))
    (try simp only [Act.put, zA, zB, zC, zD, zE, zF])
    refine tK 3 (v := ?_) rfl hHeld ?_ ?_
    rotate_left
    · (intro wx hSx; obtain ⟨⟨q0, q1⟩, _⟩ : (_ ∧ _) ∧ True := ⟨hSx.1.cells, trivial⟩; go_simp; (try with_reducible rfl))
    (try simp only [Act.put, zA, zB, zC, zD, zE, zF])
    refine tK 4 (v := ?_) rfl hHeld ?_ ?_
    rotate_left
    · (intro wx hSx; obtain ⟨⟨q0, q1⟩, _⟩ : (_ ∧ _) ∧ True := ⟨hSx.1.cells, trivial⟩; go_simp; (try with_reducible rfl))
    (try simp only [Act.put, zA, zB, zC, zD, zE, zF])
    refine tN 5 rfl hHeld ?_
    (try simp only [Act.put, zA, zB, zC, zD, zE, zF])
    refine tN 6 rfl hHeld ?_
    (try simp only [Act.put, zA, zB, zC, zD, zE, zF])
    refine tN 7 rfl hHeld ?_
    (try simp only [Act.put, zA, zB, zC, zD, zE, zF])
    refine tN 8 rfl hHeld ?_
    (try simp only [Act.put, zA, zB, zC, zD, zE, zF])
    refine tN 9 rfl hHeld ?_
    (try simp only [Act.put, zA, zB, zC, zD, zE, zF])
    refine tN 10 rfl hHeld ?_
    (try simp only [Act.put, zA, zB, zC, zD, zE, zF])
    refine tN 11 rfl hHeld ?_
    (try simp only [Act.put, zA, zB, zC, zD, zE, zF])
    refine tN 12 rfl hHeld ?_
    (try simp only [Act.put, zA, zB, zC, zD, zE, zF])
    refine tK 13 (v := ?_) rfl hHeld ?_ ?_
    rotate_left
    · (intro wx hSx; obtain ⟨⟨q0, q1⟩, _⟩ : (_ ∧ _) ∧ True := ⟨hSx.1.cells, trivial⟩; go_simp; (try with_reducible rfl))
    (try simp only [Act.put, zA, zB, zC, zD, zE, zF])
    refine tK 14 (v := ?_) rfl hHeld ?_ ?_
    rotate_left
    · (intro wx hSx; obtain ⟨⟨q0, q1⟩, _⟩ : (_ ∧ _) ∧ True := ⟨hSx.1.cells, trivial⟩; go_simp; (try with_reducible rfl))
    (try simp only [Act.put, zA, zB, zC, zD, zE, zF])
    refine tN 15 rfl hHeld ?_
    (try simp only [Act.put, zA, zB, zC, zD, zE, zF])
    refine tN 16 rfl hHeld ?_
    (try simp only [Act.put, zA, zB, zC, zD, zE, zF])
    refine tN 17 rfl hHeld ?_
    (try simp only [Act.put, zA, zB, zC, zD, zE, zF])
    refine tK 18 (v := ?_) rfl hHeld ?_ ?_
    rotate_left
    · (intro wx hSx; obtain ⟨⟨q0, q1⟩, _⟩ : (_ ∧ _) ∧ True := ⟨hSx.1.cells, trivial⟩; go_simp; (try with_reducible rfl))
    (try simp only [Act.put, zA, zB, zC, zD, zE, zF])
    refine wpAnyH_done (by kernel_rfl) ?_ _
    clear hHeld
    go_wp2
    go_ret
    exact ⟨by rw [HV.out]; rfl, HH.out.2⟩
  | cons c l =>
    obtain ⟨g, off, rfl, hbB, c0, c1⟩ := HR.out.cells 0 (by simp)
    simp only [Nat.zero_mul, Nat.add_zero, List.getElem_cons_zero] at c0 c1
    have HC0 : Hid (∀ W, Below w.heap.size w W → W.cell? ⟨g, off, none⟩ = some (.int .i64 c.off)) := LH fun W h => (h.cell (p := ⟨g, off, none⟩) (by show g < _; omega)).trans c0
    have HC1 : Hid (∀ W, Below w.heap.size w W → W.cell? ⟨g, off + 1, none⟩ = some (.string c.data)) := LH fun W h => (h.cell (p := ⟨g, off + 1, none⟩) (by show g < _; omega)).trans c1
    have hS0 := HH.out
    have hz : (((l.length : Int) + 1) == 0) = false := by simp; omega
    simp only [List.length_cons] at HIS HH hS0
    clear c0 c1
    by_cases he : c.off = nx
    · have hd : (c.off != nx) = false := by simpa using he
      by_cases hok : okB ⟨nx, c :: l⟩
      · have HV : Hid (rdyB ⟨nx, c :: l⟩ = c.data.size) := LH (by rw [HRD.out, if_pos hok]; exact if_pos he)
        rw [decide_eq_true hok] at HIS
        clear he HRD hok
        go_enter Tryz.func110, Tryz.ntmps110
        go_wp2
        refine wp_region_held_drew (S := HeldB w nx (.slice (some ⟨g, off, none⟩) (l.length + 1) cap)) (by kernel_rfl) hS0 (fun hHeld => ?_)
        refine tK 0 (v := ?_) rfl hHeld ?_ ?_
        rotate_left
        · (intro wx hSx; obtain ⟨⟨q0, q1⟩, c0⟩ : (_ ∧ _) ∧ _ := ⟨hSx.1.cells, HC0.out _ hSx.2⟩; go_simp; (try with_reducible rfl))
        (try simp only [Act.put, zA, zC, zD, zE, zF])
        refine tK 1 (v := ?_) rfl hHeld ?_ ?_
        rotate_left
        · (intro wx hSx; obtain ⟨⟨q0, q1⟩, c0⟩ : (_ ∧ _) ∧ _ := ⟨hSx.1.cells, HC0.out _ hSx.2⟩; go_simp; (try with_reducible rfl))
        (try simp only [Act.put, zA, zB, zC, zD, zE, zF])
        refine tK 2 (v := ?_) rfl hHeld ?_ ?_
        rotate_left
        · (intro wx hSx; obtain ⟨⟨q0, q1⟩, c0⟩ : (_ ∧ _) ∧ _ := ⟨hSx.1.cells, HC0.out _ hSx.2⟩; go_simp; (try with_reducible rfl))
        (try simp only [Act.put, zA, zB, zC, zD, zE, zF])
        refine tK 3 (v := ?_) rfl hHeld ?_ ?_
        rotate_left
        · (intro wx hSx; obtain ⟨⟨q0, q1⟩, c0⟩ : (_ ∧ _) ∧ _ := ⟨hSx.1.cells, HC0.out _ hSx.2⟩; go_simp; (try with_reducible rfl))
        (try simp only [Act.put, zA, zB, zC, zD, zE, zF])
        refine tK 4 (v := ?_) rfl hHeld ?_ ?_
        rotate_left
        · (intro wx hSx; obtain ⟨⟨q0, q1⟩, c0⟩ : (_ ∧ _) ∧ _ := ⟨hSx.1.cells, HC0.out _ hSx.2⟩; go_simp; (try with_reducible rfl))
        (try simp only [Act.put, zA, zB, zC, zD, zE, zF])
        refine tK 5 (v := ?_) rfl hHeld ?_ ?_
        rotate_left
        · (intro wx hSx; obtain ⟨⟨q0, q1⟩, c0⟩ : (_ ∧ _) ∧ _ := ⟨hSx.1.cells, HC0.out _ hSx.2⟩; go_simp; (try with_reducible rfl))
        (try simp only [Act.put, zA, zB, zC, zD, zE, zF])
        refine tK 6 (v := ?_) rfl hHeld ?_ ?_
        rotate_left
        · (intro wx hSx; obtain ⟨⟨q0, q1⟩, c0⟩ : (_ ∧ _) ∧ _ := ⟨hSx.1.cells, HC0.out _ hSx.2⟩; go_simp; (try with_reducible rfl))
        (try simp only [Act.put, zA, zB, zC, zD, zE, zF])
        refine tK 7 (v := ?_) rfl hHeld ?_ ?_
        rotate_left
        · (intro wx hSx; obtain ⟨⟨q0, q1⟩, c0⟩ : (_ ∧ _) ∧ _ := ⟨hSx.1.cells, HC0.out _ hSx.2⟩; go_simp; (try with_reducible rfl))
        (try simp only [Act.put, zA, zB, zC, zD, zE, zF])
        refine tK 8 (v := ?_) rfl hHeld ?_ ?_
        rotate_left
        · (intro wx hSx; obtain ⟨⟨q0, q1⟩, c0⟩ : (_ ∧ _) ∧ _ := ⟨hSx.1.cells, HC0.out _ hSx.2⟩; go_simp; (try with_reducible rfl))
        (try simp only [Act.put, zA, zB, zC, zD, zE, zF])
        refine tK 9 (v := ?_) rfl hHeld ?_ ?_
        rotate_left
        · (intro wx hSx; obtain ⟨⟨q0, q1⟩, c0⟩ : (_ ∧ _) ∧ _ := ⟨hSx.1.cells, HC0.out _ hSx.2⟩; go_simp; (try with_reducible rfl))
        (try simp only [Act.put, zA, zB, zC, zD, zE, zF])
        refine tK 10 (v := ?_) rfl hHeld ?_ ?_
        rotate_left
        · (intro wx hSx; obtain ⟨⟨q0, q1⟩, c0⟩ : (_ ∧ _) ∧ _ := ⟨hSx.1.cells, HC0.out _ hSx.2⟩; go_simp; (try with_reducible rfl))
        (try simp only [Act.put, zA, zB, zC, zD, zE, zF])
        refine tK 11 (v := ?_) rfl hHeld ?_ ?_
        rotate_left
        · (intro wx hSx; obtain ⟨⟨q0, q1⟩, c0⟩ : (_ ∧ _) ∧ _ := ⟨hSx.1.cells, HC0.out _ hSx.2⟩; go_simp; (try with_reducible rfl))
        (try simp only [Act.put, zA, zB, zC, zD, zE, zF])
        refine tK 12 (v := ?_) rfl hHeld ?_ ?_
        rotate_left
        · (intro wx hSx; obtain ⟨⟨q0, q1⟩, c0⟩ : (_ ∧ _) ∧ _ := ⟨hSx.1.cells, HC0.out _ hSx.2⟩; go_simp; (try with_reducible rfl))
        (try simp only [Act.put, zA, zB, zC, zD, zE, zF])
        refine tK 13 (v := ?_) rfl hHeld ?_ ?_
        rotate_left
        · (intro wx hSx; obtain ⟨⟨q0, q1⟩, c0⟩ : (_ ∧ _) ∧ _ := ⟨hSx.1.cells, HC0.out _ hSx.2⟩; go_simp; (try with_reducible rfl))
        (try simp only [Act.put, zA, zB, zC, zD, zE, zF])
        refine tK 14 (v := ?_) rfl hHeld ?_ ?_
        rotate_left
        · (intro wx hSx; obtain ⟨⟨q0, q1⟩, c0⟩ : (_ ∧ _) ∧ _ := ⟨hSx.1.cells, HC0.out _ hSx.2⟩; go_simp; (try with_reducible rfl))
        (try simp only [Act.put, zA, zB, zC, zD, zE, zF])
        refine tK 15 (v := ?_) rfl hHeld ?_ ?_
        rotate_left
        · (intro wx hSx; obtain ⟨⟨q0, q1⟩, c0⟩ : (_ ∧ _) ∧ _ := ⟨hSx.1.cells, HC0.out _ hSx.2⟩; go_simp; (try with_reducible rfl))
        (try simp only [Act.put, zA, zB, zC, zD, zE, zF])
        refine wpAnyH_ready (rs := [16]) (by kernel_rfl) (by simp) ?_
        refine AllReadyH.cons rfl (fun K hK => ?_) AllReadyH.nil
        rw [if_pos (by rfl)]
        go_simp
        refine (HIS.out _ (Nat.le_trans hB HH.out.2.size) (HR.out.below hB HH.out.2)).mono ?_
        rintro e w1 ⟨rfl, hb1⟩
        have HH := LH (HH.out.next hb1)
        (try simp only [])
        refine hK.out _ _ HH.out (fun hHeld => ?_)
        clear hb1
        clear hK K
        (try simp only [Act.put, zA, zB, zC, zD, zE, zF])
        refine tK 17 (v := ?_) rfl hHeld ?_ ?_
        rotate_left
        · (intro wx hSx; obtain ⟨⟨q0, q1⟩, c0⟩ : (_ ∧ _) ∧ _ := ⟨hSx.1.cells, HC0.out _ hSx.2⟩; go_simp; (try with_reducible rfl))
        (try simp only [Act.put, zA, zB, zC, zD, zE, zF])
        refine tK 18 (v := ?_) rfl hHeld ?_ ?_
        rotate_left
        · (intro wx hSx; obtain ⟨⟨q0, q1⟩, c0⟩ : (_ ∧ _) ∧ _ := ⟨hSx.1.cells, HC0.out _ hSx.2⟩; go_simp; (try with_reducible rfl))
        (try simp only [Act.put, zA, zB, zC, zD, zE, zF])
        refine wpAnyH_done (by kernel_rfl) ?_ _
        clear hHeld
        obtain ⟨q0, q1⟩ := HH.out.1.cells
        have c1 := HC1.out _ HH.out.2
        go_wp2
        go_ret
        exact ⟨by rw [HV.out]; rfl, HH.out.2⟩
      · have HV : Hid (rdyB ⟨nx, c :: l⟩ = 0) := LH (by rw [HRD.out, if_neg hok])
        rw [decide_eq_false hok] at HIS
        clear he HRD hok
        go_enter Tryz.func110, Tryz.ntmps110
        go_wp2
        refine wp_region_held_drew (S := HeldB w nx (.slice (some ⟨g, off, none⟩) (l.length + 1) cap)) (by kernel_rfl) hS0 (fun hHeld => ?_)
        refine tK 0 (v := ?_) rfl hHeld ?_ ?_
        rotate_left
        · (intro wx hSx; obtain ⟨⟨q0, q1⟩, c0⟩ : (_ ∧ _) ∧ _ := ⟨hSx.1.cells, HC0.out _ hSx.2⟩; go_simp; (try with_reducible rfl))
        (try simp only [Act.put, zA, zC, zD, zE, zF])
        refine tK 1 (v := ?_) rfl hHeld ?_ ?_
        rotate_left
        · (intro wx hSx; obtain ⟨⟨q0, q1⟩, c0⟩ : (_ ∧ _) ∧ _ := ⟨hSx.1.cells, HC0.out _ hSx.2⟩; go_simp; (try with_reducible rfl))
        (try simp only [Act.put, zA, zB, zC, zD, zE, zF])
        refine tK 2 (v := ?_) rfl hHeld ?_ ?_
        rotate_left
        · (intro wx hSx; obtain ⟨⟨q0, q1⟩, c0⟩ : (_ ∧ _) ∧ _ := ⟨hSx.1.cells, HC0.out _ hSx.2⟩; go_simp; (try with_reducible rfl))
        (try simp only [Act.put, zA, zB, zC, zD, zE, zF])
        refine tK 3 (v := ?_) rfl hHeld ?_ ?_
        rotate_left
        · (intro wx hSx; obtain ⟨⟨q0, q1⟩, c0⟩ : (_ ∧ _) ∧ _ := ⟨hSx.1.cells, HC0.out _ hSx.2⟩; go_simp; (try with_reducible rfl))
        (try simp only [Act.put, zA, zB, zC, zD, zE, zF])
        refine tK 4 (v := ?_) rfl hHeld ?_ ?_
        rotate_left
        · (intro wx hSx; obtain ⟨⟨q0, q1⟩, c0⟩ : (_ ∧ _) ∧ _ := ⟨hSx.1.cells, HC0.out _ hSx.2⟩; go_simp; (try with_reducible rfl))
        (try simp only [Act.put, zA, zB, zC, zD, zE, zF])
        refine tK 5 (v := ?_) rfl hHeld ?_ ?_
        rotate_left
        · (intro wx hSx; obtain ⟨⟨q0, q1⟩, c0⟩ : (_ ∧ _) ∧ _ := ⟨hSx.1.cells, HC0.out _ hSx.2⟩; go_simp; (try with_reducible rfl))
        (try simp only [Act.put, zA, zB, zC, zD, zE, zF])
        refine tK 6 (v := ?_) rfl hHeld ?_ ?_
        rotate_left
        · (intro wx hSx; obtain ⟨⟨q0, q1⟩, c0⟩ : (_ ∧ _) ∧ _ := ⟨hSx.1.cells, HC0.out _ hSx.2⟩; go_simp; (try with_reducible rfl))
        (try simp only [Act.put, zA, zB, zC, zD, zE, zF])
        refine tK 7 (v := ?_) rfl hHeld ?_ ?_
        rotate_left
        · (intro wx hSx; obtain ⟨⟨q0, q1⟩, c0⟩ : (_ ∧ _) ∧ _ := ⟨hSx.1.cells, HC0.out _ hSx.2⟩; go_simp; (try with_reducible rfl))
        (try simp only [Act.put, zA, zB, zC, zD, zE, zF])
        refine tK 8 (v := ?_) rfl hHeld ?_ ?_
        rotate_left
        · (intro wx hSx; obtain ⟨⟨q0, q1⟩, c0⟩ : (_ ∧ _) ∧ _ := ⟨hSx.1.cells, HC0.out _ hSx.2⟩; go_simp; (try with_reducible rfl))
        (try simp only [Act.put, zA, zB, zC, zD, zE, zF])
        refine tK 9 (v := ?_) rfl hHeld ?_ ?_
        rotate_left
        · (intro wx hSx; obtain ⟨⟨q0, q1⟩, c0⟩ : (_ ∧ _) ∧ _ := ⟨hSx.1.cells, HC0.out _ hSx.2⟩; go_simp; (try with_reducible rfl))
        (try simp only [Act.put, zA, zB, zC, zD, zE, zF])
        refine tK 10 (v := ?_) rfl hHeld ?_ ?_
        rotate_left
        · (intro wx hSx; obtain ⟨⟨q0, q1⟩, c0⟩ : (_ ∧ _) ∧ _ := ⟨hSx.1.cells, HC0.out _ hSx.2⟩; go_simp; (try with_reducible rfl))
        (try simp only [Act.put, zA, zB, zC, zD, zE, zF])
        refine tK 11 (v := ?_) rfl hHeld ?_ ?_
        rotate_left
        · (intro wx hSx; obtain ⟨⟨q0, q1⟩, c0⟩ : (_ ∧ _) ∧ _ := ⟨hSx.1.cells, HC0.out _ hSx.2⟩; go_simp; (try with_reducible rfl))
        (try simp only [Act.put, zA, zB, zC, zD, zE, zF])
        refine tK 12 (v := ?_) rfl hHeld ?_ ?_
        rotate_left
        · (intro wx hSx; obtain ⟨⟨q0, q1⟩, c0⟩ : (_ ∧ _) ∧ _ := ⟨hSx.1.cells, HC0.out _ hSx.2⟩; go_simp; (try with_reducible rfl))
        (try simp only [Act.put, zA, zB, zC, zD, zE, zF])
        refine tK 13 (v := ?_) rfl hHeld ?_ ?_
        rotate_left
        · (intro wx hSx; obtain ⟨⟨q0, q1⟩, c0⟩ : (_ ∧ _) ∧ _ := ⟨hSx.1.cells, HC0.out _ hSx.2⟩; go_simp; (try with_reducible rfl))
        (try simp only [Act.put, zA, zB, zC, zD, zE, zF])
        refine tK 14 (v := ?_) rfl hHeld ?_ ?_
        rotate_left
        · (intro wx hSx; obtain ⟨⟨q0, q1⟩, c0⟩ : (_ ∧ _) ∧ _ := ⟨hSx.1.cells, HC0.out _ hSx.2⟩; go_simp; (try with_reducible rfl))
        (try simp only [Act.put, zA, zB, zC, zD, zE, zF])
        refine tK 15 (v := ?_) rfl hHeld ?_ ?_
        rotate_left
        · (intro wx hSx; obtain ⟨⟨q0, q1⟩, c0⟩ : (_ ∧ _) ∧ _ := ⟨hSx.1.cells, HC0.out _ hSx.2⟩; go_simp; (try with_reducible rfl))
        (try simp only [Act.put, zA, zB, zC, zD, zE, zF])
        refine wpAnyH_ready (rs := [16]) (by kernel_rfl) (by simp) ?_
        refine AllReadyH.cons rfl (fun K hK => ?_) AllReadyH.nil
        rw [if_pos (by rfl)]
        go_simp
        refine (HIS.out _ (Nat.le_trans hB HH.out.2.size) (HR.out.below hB HH.out.2)).mono ?_
        rintro e w1 ⟨rfl, hb1⟩
        have HH := LH (HH.out.next hb1)
        (try simp only [])
        refine hK.out _ _ HH.out (fun hHeld => ?_)
        clear hb1
        clear hK K
        (try simp only [Act.put, zA, zB, zC, zD, zE, zF])
        refine tK 17 (v := ?_) rfl hHeld ?_ ?_
        rotate_left
        · (intro wx hSx; obtain ⟨⟨q0, q1⟩, c0⟩ : (_ ∧ _) ∧ _ := ⟨hSx.1.cells, HC0.out _ hSx.2⟩; go_simp; (try with_reducible rfl))
        (try simp only [Act.put, zA, zB, zC, zD, zE, zF])
        refine tK 18 (v := ?_) rfl hHeld ?_ ?_
        rotate_left
        · (intro wx hSx; obtain ⟨⟨q0, q1⟩, c0⟩ : (_ ∧ _) ∧ _ := ⟨hSx.1.cells, HC0.out _ hSx.2⟩; go_simp; (try with_reducible rfl))
        (try simp only [Act.put, zA, zB, zC, zD, zE, zF])
        refine wpAnyH_done (by kernel_rfl) ?_ _
        clear hHeld
        go_wp2
        go_ret
        exact ⟨by rw [HV.out]; rfl, HH.out.2⟩
    · have hd : (c.off != nx) = true := by simpa using he
      have HV : Hid (rdyB ⟨nx, c :: l⟩ = 0) := LH (by
        rw [HRD.out]
        split
        · exact if_neg he
        · rfl)
      clear he HRD HIS
      go_enter Tryz.func110, Tryz.ntmps110
      go_wp2
      refine wp_region_held_drew (S := HeldB w nx (.slice (some ⟨g, off, none⟩) (l.length + 1) cap)) (by kernel_rfl) hS0 (fun hHeld => ?_)
      refine tK 0 (v := ?_) rfl hHeld ?_ ?_
      rotate_left
      · (intro wx hSx; obtain ⟨⟨q0, q1⟩, c0⟩ : (_ ∧ _) ∧ _ := ⟨hSx.1.cells, HC0.out _ hSx.2⟩; go_simp; (try with_reducible rfl))
      (try simp only [Act.put, zA, zC, zD, zE, zF])
      refine tK 1 (v := ?_) rfl hHeld ?_ ?_
      rotate_left
      · (intro wx hSx; obtain ⟨⟨q0, q1⟩, c0⟩ : (_ ∧ _) ∧ _ := ⟨hSx.1.cells, HC0.out _ hSx.2⟩; go_simp; (try with_reducible rfl))
      (try simp only [Act.put, zA, zB, zC, zD, zE, zF])
      refine tK 2 (v := ?_) rfl hHeld ?_ ?_
      rotate_left
      · (intro wx hSx; obtain ⟨⟨q0, q1⟩, c0⟩ : (_ ∧ _) ∧ _ := ⟨hSx.1.cells, HC0.out _ hSx.2⟩; go_simp; (try with_reducible rfl))
      (try simp only [Act.put, zA, zB, zC, zD, zE, zF])
      refine tK 3 (v := ?_) rfl hHeld ?_ ?_
      rotate_left
      · (intro wx hSx; obtain ⟨⟨q0, q1⟩, c0⟩ : (_ ∧ _) ∧ _ := ⟨hSx.1.cells, HC0.out _ hSx.2⟩; go_simp; (try with_reducible rfl))
      (try simp only [Act.put, zA, zB, zC, zD, zE, zF])
      refine tK 4 (v := ?_) rfl hHeld ?_ ?_
      rotate_left
      · (intro wx hSx; obtain ⟨⟨q0, q1⟩, c0⟩ : (_ ∧ _) ∧ _ := ⟨hSx.1.cells, HC0.out _ hSx.2⟩; go_simp; (try with_reducible rfl))
      (try simp only [Act.put, zA, zB, zC, zD, zE, zF])
      refine tK 5 (v := ?_) rfl hHeld ?_ ?_
      rotate_left
      · (intro wx hSx; obtain ⟨⟨q0, q1⟩, c0⟩ : (_ ∧ _) ∧ _ := ⟨hSx.1.cells, HC0.out _ hSx.2⟩; go_simp; (try with_reducible rfl))
      (try simp only [Act.put, zA, zB, zC, zD, zE, zF])
      refine tK 6 (v := ?_) rfl hHeld ?_ ?_
      rotate_left
      · (intro wx hSx; obtain ⟨⟨q0, q1⟩, c0⟩ : (_ ∧ _) ∧ _ := ⟨hSx.1.cells, HC0.out _ hSx.2⟩; go_simp; (try with_reducible rfl))
      (try simp only [Act.put, zA, zB, zC, zD, zE, zF])
      refine tK 7 (v := ?_) rfl hHeld ?_ ?_
      rotate_left
      · (intro wx hSx; obtain ⟨⟨q0, q1⟩, c0⟩ : (_ ∧ _) ∧ _ := ⟨hSx.1.cells, HC0.out _ hSx.2⟩; go_simp; (try with_reducible rfl))
      (try simp only [Act.put, zA, zB, zC, zD, zE, zF])
      refine tK 8 (v := ?_) rfl hHeld ?_ ?_
      rotate_left
      · (intro wx hSx; obtain ⟨⟨q0, q1⟩, c0⟩ : (_ ∧ _) ∧ _ := ⟨hSx.1.cells, HC0.out _ hSx.2⟩; go_simp; (try with_reducible rfl))
      (try simp only [Act.put, zA, zB, zC, zD, zE, zF])
      refine tK 9 (v := ?_) rfl hHeld ?_ ?_
      rotate_left
      · (intro wx hSx; obtain ⟨⟨q0, q1⟩, c0⟩ : (_ ∧ _) ∧ _ := ⟨hSx.1.cells, HC0.out _ hSx.2⟩; go_simp; (try with_reducible rfl))
      (try simp only [Act.put, zA, zB, zC, zD, zE, zF])
      refine tK 10 (v := ?_) rfl hHeld ?_ ?_
      rotate_left
      · (intro wx hSx; obtain ⟨⟨q0, q1⟩, c0⟩ : (_ ∧ _) ∧ _ := ⟨hSx.1.cells, HC0.out _ hSx.2⟩; go_simp; (try with_reducible rfl))
      (try simp only [Act.put, zA, zB, zC, zD, zE, zF])
      refine tK 11 (v := ?_) rfl hHeld ?_ ?_
      rotate_left
      · (intro wx hSx; obtain ⟨⟨q0, q1⟩, c0⟩ : (_ ∧ _) ∧ _ := ⟨hSx.1.cells, HC0.out _ hSx.2⟩; go_simp; (try with_reducible rfl))
      (try simp only [Act.put, zA, zB, zC, zD, zE, zF])
      refine tK 12 (v := ?_) rfl hHeld ?_ ?_
      rotate_left
      · (intro wx hSx; obtain ⟨⟨q0, q1⟩, c0⟩ : (_ ∧ _) ∧ _ := ⟨hSx.1.cells, HC0.out _ hSx.2⟩; go_simp; (try with_reducible rfl))
      (try simp only [Act.put, zA, zB, zC, zD, zE, zF])
      refine tK 13 (v := ?_) rfl hHeld ?_ ?_
      rotate_left
      · (intro wx hSx; obtain ⟨⟨q0, q1⟩, c0⟩ : (_ ∧ _) ∧ _ := ⟨hSx.1.cells, HC0.out _ hSx.2⟩; go_simp; (try with_reducible rfl))
      (try simp only [Act.put, zA, zB, zC, zD, zE, zF])
      refine tK 14 (v := ?_) rfl hHeld ?_ ?_
      rotate_left
      · (intro wx hSx; obtain ⟨⟨q0, q1⟩, c0⟩ : (_ ∧ _) ∧ _ := ⟨hSx.1.cells, HC0.out _ hSx.2⟩; go_simp; (try with_reducible rfl))
      (try simp only [Act.put, zA, zB, zC, zD, zE, zF])
      refine tN 15 rfl hHeld ?_
      (try simp only [Act.put, zA, zB, zC, zD, zE, zF])
      refine tN 16 rfl hHeld ?_
      (try simp only [Act.put, zA, zB, zC, zD, zE, zF])
      refine tN 17 rfl hHeld ?_
      (try simp only [Act.put, zA, zB, zC, zD, zE, zF])
      refine tK 18 (v := ?_) rfl hHeld ?_ ?_
      rotate_left
      · (intro wx hSx; obtain ⟨⟨q0, q1⟩, c0⟩ : (_ ∧ _) ∧ _ := ⟨hSx.1.cells, HC0.out _ hSx.2⟩; go_simp; (try with_reducible rfl))
      (try simp only [Act.put, zA, zB, zC, zD, zE, zF])
      refine wpAnyH_done (by kernel_rfl) ?_ _
      clear hHeld
      go_wp2
      go_ret
      exact ⟨by rw [HV.out]; rfl, HH.out.2⟩
end Go.Proofs.YtdaoaedkjoknmaaGreat
