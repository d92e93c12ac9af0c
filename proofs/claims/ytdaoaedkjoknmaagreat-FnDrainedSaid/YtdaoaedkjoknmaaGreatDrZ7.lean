/-
  Contracts and lemmas for the law on draining.
-/
import Derived.Test.YtdaoaedkjoknmaaGreatDrZ0
import Derived.Test.YtdaoaedkjoknmaaGreatDrZ6
import Derived.Test.YtdaoaedkjoknmaaGreatDrZ1
set_option maxRecDepth 1000000
set_option maxHeartbeats 8000000
namespace Go.Proofs.YtdaoaedkjoknmaaGreat
open Go.RowKit Go.Deep Go.Proofs.YtdaoaedkjoknmaaGreat.Num

def Box (w : World) (g : Nat) (x : Rg) : Prop := w.heap[g]? = some (.cells #[.int .i64 x.1, .int .i64 x.2] 59 (0, 0))
theorem Box.cells {w : World} {g : Nat} {x : Rg} (c : Box w g x) : w.cell? ⟨g, 0, none⟩ = some (.int .i64 x.1) ∧ w.cell? ⟨g, 1, none⟩ = some (.int .i64 x.2) :=
  ⟨cell_of_row w g 0 _ _ _ c, cell_of_row w g 1 _ _ _ c⟩
theorem Box.free {w : World} {g : Nat} {x : Rg} (c : Box w g x) (k : Nat) : w.frozen? ⟨g, k, none⟩ = false := by
  unfold Box at c
  simp [World.frozen?, c]
theorem Box.set0 {w : World} {g : Nat} {x : Rg} (c : Box w g x) (m : Int) : Box (w.setCell ⟨g, 0, none⟩ (.int .i64 m)) g (m, x.2) := by
  unfold Box at c ⊢
  simp [World.setCell, Array.getElem?_modify, c]
theorem Box.set1 {w : World} {g : Nat} {x : Rg} (c : Box w g x) (m : Int) : Box (w.setCell ⟨g, 1, none⟩ (.int .i64 m)) g (x.1, m) := by
  unfold Box at c ⊢
  simp [World.setCell, Array.getElem?_modify, c]
theorem Box.new (w : World) (x : Rg) : Box (w.alloc (.cells #[.int .i64 x.1, .int .i64 x.2] 59)) w.heap.size x := heap_alloc_new w _
theorem box_only {w : World} {g : Nat} (k : Nat) (u : Value) : w.grownBy (w.setCell ⟨g, k, none⟩ u) (some g) :=
  ⟨rfl, rfl, rfl, by simp [World.setCell], fun i _ hne => Below.heap_setCell w ⟨g, k, none⟩ u i (by rintro rfl; exact hne rfl)⟩
def AddW (g base : Nat) (w : World) (c : Rg) (v : Value) (acc : List Rg) (wr : World) : Prop := Box wr g c ∧ OwnR wr base v acc ∧ Below g w wr ∧ base ≤ wr.heap.size
theorem AddW.drewN {g base : Nat} {w wr : World} {c : Rg} {v : Value} {acc : List Rg} (h : AddW g base w c v acc wr) (n : Nat) : AddW g base w c v acc (wr.drewN n) := ⟨h.1, h.2.1, belowR_drewN h.2.2.1 n, h.2.2.2⟩
theorem AddW.drew {g base : Nat} {w wr : World} {c : Rg} {v : Value} {acc : List Rg} (h : AddW g base w c v acc wr) : AddW g base w c v acc wr.drew := ⟨h.1, h.2.1, h.2.2.1.drew, h.2.2.2⟩
theorem AddW.set0 {g base : Nat} {w wr : World} {c : Rg} {v : Value} {acc : List Rg} (h : AddW g base w c v acc wr) (hg : g < base) (m : Int) : AddW g base w (m, c.2) v acc (wr.setCell ⟨g, 0, none⟩ (.int .i64 m)) :=
  ⟨h.1.set0 m, h.2.1.only (box_only 0 _) hg, h.2.2.1.setCell (Nat.le_refl _) _ , by simpa [World.setCell] using h.2.2.2⟩
theorem AddW.set1 {g base : Nat} {w wr : World} {c : Rg} {v : Value} {acc : List Rg} (h : AddW g base w c v acc wr) (hg : g < base) (m : Int) : AddW g base w (c.1, m) v acc (wr.setCell ⟨g, 1, none⟩ (.int .i64 m)) :=
  ⟨h.1.set1 m, h.2.1.only (box_only 1 _) hg, h.2.2.1.setCell (Nat.le_refl _) _ , by simpa [World.setCell] using h.2.2.2⟩
theorem AddW.more {g base : Nat} {w wr w' : World} {c : Rg} {v v' : Value} {acc acc' : List Rg} {o : Obj} (h : AddW g base w c v acc wr) (hg : g < base) (ho : OwnR w' base v' acc') (hb : Below base (wr.alloc o) w') : AddW g base w c v' acc' w' := by
  have h1 := h.2.2.1
  have h2 : Below base wr w' := ((Below.refl base wr).alloc h.2.2.2 o).trans hb
  exact ⟨(h2.block g hg).trans h.1, ho, h1.trans (h2.mono (by omega)), Nat.le_trans h.2.2.2 h2.size⟩

theorem sadd (l : List Rg) (r : Rg) (A : Option Addr) (cap B : Nat) (w : World) (hB : B ≤ w.heap.size) (hr : Rgs w B A l) (hn : l.length ≤ 1000000000) :
    Calls Tryz.prog 35 #[.slice A l.length cap, rgV r] w fun e w' => ∃ v, e = .returned v ∧ OwnR w' w.heap.size v (if okR (-1) l ∧ fineR r then addR r l else l) ∧ Below w.heap.size w w' := by
  have hr1 : Rgs (w.alloc (.cells #[.int .i64 r.1, .int .i64 r.2] 59)) B A l := hr.keep fun k hk => heap_alloc_old w _ (by omega)
  have hbx := (Below.refl w.heap.size w).alloc (Nat.le_refl _) (.cells #[.int .i64 r.1, .int .i64 r.2] 59)
  have hrc := RCell.box w r 59
  have hsz : (w.alloc (.cells #[.int .i64 r.1, .int .i64 r.2] 59)).heap.size = w.heap.size + 1 := by simp
  generalize hw1 : w.alloc (.cells #[.int .i64 r.1, .int .i64 r.2] 59) = w1 at *
  have HBOX : Hid (Box w1 w.heap.size r) := LH (by rw [← hw1]; exact Box.new w r)
  have HC := LH (sisr l A cap B w1 (by omega) hr1 hn)
  have HF := LH (sfine r)
  have HR := LH hr1
  have HBX := LH hbx
  have HRC := LH hrc
  have HR0 := LH hr
  clear hr1 hr hbx hrc
  by_cases hk : okR (-1) l
  · rw [decide_eq_true hk] at HC
    by_cases hf : fineR r
    · rw [decide_eq_true hf] at HF
      rw [if_pos ⟨hk, hf⟩]
      have HST := LH (AddP.start r l hf)
      have HK := LH hk
      clear hk hf
      go_enter Tryz.func35, Tryz.ntmps35
      go_wp2_with fail
      refine HC.out.mono ?_
      rintro e w2 ⟨rfl, hb2⟩
      have HB2 := LH hb2
      obtain ⟨rc1, rc2⟩ := HRC.out.below hb2 (by omega)
      clear hb2
      go_wp2_with fail
      refine (HF.out _).mono ?_
      rintro e w3 ⟨rfl, hb3⟩
      have HB3 := LH (HB2.out.trans (hb3.mono HB2.out.size))
      clear hb3 rc1 rc2
      have HB4 := LH (HB3.out.alloc HB3.out.size (.cells #[] 59))
      have HO4 := LH (OwnR.lit w3 w1.heap.size 0 #[] HB3.out.size (by decide) rfl)
      have HA4 : Hid (AddW w.heap.size w1.heap.size w r (.slice (some ⟨w3.heap.size, 0, none⟩) 0 0) [] (w3.alloc (.cells #[] 59))) := LH
        ⟨(HB4.out.block _ (by omega)).trans HBOX.out, HO4.out, HBX.out.trans (HB4.out.mono (by omega)), HB4.out.size⟩
      go_wp2
      go_loopw [5, 6, 7] (fun v p i wr => ∃ (j : Nat) (c : Rg) (acc : List Rg) (pl : Bool), j ≤ l.length ∧ i = .int .i64 j ∧ p = .bool pl ∧ AddW w.heap.size w1.heap.size w c v acc wr ∧ AddP r l j c acc pl) (fun _ _ i _ => l.length - (intOf i).toNat)
      case atStart => exact ⟨0, r, [], false, Nat.zero_le _, rfl, rfl, HA4.out, HST.out⟩
      case round =>
        obtain ⟨j, c, acc, pl, hj, rfl, rfl, ha, hp⟩ := hrel
        have HA := LH ha
        have HP := LH hp
        have hal := hp.1
        have hwr := ha.2.2.2
        clear ha hp HA4 HO4 HB4 HB3 HB2
        by_cases hlt : j < l.length
        · have HRW := LH ((HR0.out).below hB HA.out.2.2.1)
          obtain ⟨b, off, rfl, hbB, c1, c2⟩ := HRW.out j hlt
          clear HRW
          obtain ⟨q1, q2⟩ := HA.out.1.cells
          have f0 := HA.out.1.free 0
          cases pl with
          | false =>
            have hal2 : acc.length + 1 ≤ j + 1 := by simpa using hal
            clear hal
            by_cases h1 : l[j].2 < c.1
            · have HE := LH (HP.out.low hlt h1)
              generalize hx : l[j] = x at *
              have hd1 : decide (x.2 < c.1) = true := decide_eq_true h1
              clear h1 f0
              go_wp2
              go_quiet (fail)
              have HA1 := LH (HA.out.drewN nq)
              replace q1 : (wr.drewN nq).cell? _ = _ := q1
              replace q2 : (wr.drewN nq).cell? _ = _ := q2
              replace c1 : (wr.drewN nq).cell? _ = _ := c1
              replace c2 : (wr.drewN nq).cell? _ = _ := c2
              replace hwr : w1.heap.size ≤ (wr.drewN nq).heap.size := hwr
              clear HA
              generalize wr.drewN nq = wq at *
              go_wp2_with (at_builtin; refine wpList_append_rgs _ rfl (.tmp 52) (.tmp 57) rfl w1.heap.size _ (acc) rfl (OwnR.alloc (w := wq) HA1.out.2.1 _) wq.heap.size 0 1 1 _ [x] rfl rfl (rgs_one wq x _) (by first | omega | (simp only [List.length_append, List.length_cons, List.length_nil]; omega)) (by simp; omega) ?_; intro v5 w5 h5 b5)
              go_roundw
              case rel => exact ⟨j + 1, c, acc ++ [x], false, hlt, by go_num, rfl, HA1.out.more (by omega) h5 b5, HE.out⟩
              case measure => simp [intOf]; omega
            · by_cases h2 : c.2 < l[j].1
              · have HE := LH (HP.out.put HK.out hlt h1 h2)
                generalize hx : l[j] = x at *
                have hd1 : decide (x.2 < c.1) = false := decide_eq_false h1
                have hd2 : decide (c.2 < x.1) = true := decide_eq_true h2
                clear h1 h2 f0
                go_wp2
                go_quiet (fail)
                have HA1 := LH (HA.out.drewN nq)
                replace q1 : (wr.drewN nq).cell? _ = _ := q1
                replace q2 : (wr.drewN nq).cell? _ = _ := q2
                replace c1 : (wr.drewN nq).cell? _ = _ := c1
                replace c2 : (wr.drewN nq).cell? _ = _ := c2
                replace hwr : w1.heap.size ≤ (wr.drewN nq).heap.size := hwr
                clear HA
                generalize wr.drewN nq = wq at *
                go_wp2
                go_quiet (fail)
                have HA2 := LH (HA1.out.drewN nq)
                replace q1 : (wq.drewN nq).cell? _ = _ := q1
                replace q2 : (wq.drewN nq).cell? _ = _ := q2
                replace c1 : (wq.drewN nq).cell? _ = _ := c1
                replace c2 : (wq.drewN nq).cell? _ = _ := c2
                replace hwr : w1.heap.size ≤ (wq.drewN nq).heap.size := hwr
                clear HA1
                generalize wq.drewN nq = wp at *
                go_wp2_with first | (at_builtin; refine wpList_append_rgs _ rfl (.tmp 70) (.tmp 72) rfl w1.heap.size _ (acc) rfl (OwnR.alloc (w := wp) HA2.out.2.1 _) wp.heap.size 0 1 1 _ [c] rfl rfl (rgs_one wp c _) (by first | omega | (simp only [List.length_append, List.length_cons, List.length_nil]; omega)) (by simp; omega) ?_; intro v5 w5 h5 b5; have bb := ((Below.refl w1.heap.size wp).alloc hwr (.cells #[.int .i64 c.1, .int .i64 c.2] 59)).trans b5; have e1 := (bb.cell (p := ⟨b, off + j * 2, none⟩) (by show b < _; omega)).trans c1; have e2 := (bb.cell (p := ⟨b, off + j * 2 + 1, none⟩) (by show b < _; omega)).trans c2; have hw5 := Nat.le_trans hwr bb.size; have HA5 := LH (HA2.out.more (by omega) h5 b5)) | (at_builtin; refine wpList_append_rgs _ rfl (.tmp 74) (.tmp 79) rfl w1.heap.size _ (acc ++ [c]) rfl (OwnR.alloc (w := w5) h5 _) w5.heap.size 0 1 1 _ [x] rfl rfl (rgs_one w5 x _) (by first | omega | (simp only [List.length_append, List.length_cons, List.length_nil]; omega)) (by simp; omega) ?_; intro v6 w6 h6 b6)
                go_roundw
                case rel => exact ⟨j + 1, c, acc ++ [c] ++ [x], true, hlt, by go_num, rfl, HA5.out.more (by omega) h6 b6, HE.out⟩
                case measure => simp [intOf]; omega
              · have HE := LH (HP.out.mix hlt h1 h2)
                generalize hx : l[j] = x at *
                have hd1 : decide (x.2 < c.1) = false := decide_eq_false h1
                have hd2 : decide (c.2 < x.1) = false := decide_eq_false h2
                obtain ⟨m, hmin⟩ : ∃ m : Int, (if x.1 < c.1 then x.1 else c.1) = m := ⟨_, rfl⟩
                obtain ⟨M, hmax⟩ : ∃ M : Int, (if c.2 < x.2 then x.2 else c.2) = M := ⟨_, rfl⟩
                have e1 : min c.1 x.1 = m := by rw [← hmin]; split <;> omega
                have e2 : max c.2 x.2 = M := by rw [← hmax]; split <;> omega
                rw [e1, e2] at HE
                clear h1 h2 e1 e2 f0
                go_wp2
                go_quiet (fail)
                have HA1 := LH (HA.out.drewN nq)
                replace q1 : (wr.drewN nq).cell? _ = _ := q1
                replace q2 : (wr.drewN nq).cell? _ = _ := q2
                replace c1 : (wr.drewN nq).cell? _ = _ := c1
                replace c2 : (wr.drewN nq).cell? _ = _ := c2
                replace hwr : w1.heap.size ≤ (wr.drewN nq).heap.size := hwr
                clear HA
                generalize wr.drewN nq = wq at *
                go_wp2
                go_quiet (fail)
                have HA2 := LH (HA1.out.drewN nq)
                replace q1 : (wq.drewN nq).cell? _ = _ := q1
                replace q2 : (wq.drewN nq).cell? _ = _ := q2
                replace c1 : (wq.drewN nq).cell? _ = _ := c1
                replace c2 : (wq.drewN nq).cell? _ = _ := c2
                replace hwr : w1.heap.size ≤ (wq.drewN nq).heap.size := hwr
                clear HA1
                generalize wq.drewN nq = wp at *
                have f0 := HA2.out.1.free 0
                go_wp2
                go_region
                have HA3 := LH (HA2.out.set0 (by omega) m).drew
                have bs := (((Below.refl w.heap.size wp).setCell (p := ⟨w.heap.size, 0, none⟩) (Nat.le_refl _) (.int .i64 m)).drew)
                have e1 := (bs.cell (p := ⟨b, off + j * 2, none⟩) (by show b < _; omega)).trans c1
                have e2 := (bs.cell (p := ⟨b, off + j * 2 + 1, none⟩) (by show b < _; omega)).trans c2
                clear HA2 q1 q2 c1 c2 f0 bs hwr
                generalize (wp.setCell ⟨w.heap.size, 0, none⟩ (.int .i64 m)).drew = wm at *
                obtain ⟨q1, q2⟩ := HA3.out.1.cells
                have f1 := HA3.out.1.free 1
                go_wp2
                go_region
                have HA4 := LH (HA3.out.set1 (by omega) M).drew
                go_wp2
                go_roundw
                case rel => exact ⟨j + 1, (m, M), acc, false, hlt, by go_num, rfl, HA4.out, HE.out⟩
                case measure => simp [intOf]; omega
          | true =>
            have hal2 : acc.length ≤ j + 1 := by simpa using hal
            clear hal
            obtain ⟨h1, h2, he⟩ := HP.out.rest hlt
            have HE := LH he
            clear he
            generalize hx : l[j] = x at *
            have hd1 : decide (x.2 < c.1) = false := decide_eq_false h1
            have hd2 : decide (c.2 < x.1) = true := decide_eq_true h2
            clear h1 h2 f0
            go_wp2
            go_quiet (fail)
            have HA1 := LH (HA.out.drewN nq)
            replace q1 : (wr.drewN nq).cell? _ = _ := q1
            replace q2 : (wr.drewN nq).cell? _ = _ := q2
            replace c1 : (wr.drewN nq).cell? _ = _ := c1
            replace c2 : (wr.drewN nq).cell? _ = _ := c2
            replace hwr : w1.heap.size ≤ (wr.drewN nq).heap.size := hwr
            clear HA
            generalize wr.drewN nq = wq at *
            go_wp2
            go_quiet (fail)
            have HA2 := LH (HA1.out.drewN nq)
            replace q1 : (wq.drewN nq).cell? _ = _ := q1
            replace q2 : (wq.drewN nq).cell? _ = _ := q2
            replace c1 : (wq.drewN nq).cell? _ = _ := c1
            replace c2 : (wq.drewN nq).cell? _ = _ := c2
            replace hwr : w1.heap.size ≤ (wq.drewN nq).heap.size := hwr
            clear HA1
            generalize wq.drewN nq = wp at *
            go_wp2_with (at_builtin; refine wpList_append_rgs _ rfl (.tmp 74) (.tmp 79) rfl w1.heap.size _ (acc) rfl (OwnR.alloc (w := wp) HA2.out.2.1 _) wp.heap.size 0 1 1 _ [x] rfl rfl (rgs_one wp x _) (by first | omega | (simp only [List.length_append, List.length_cons, List.length_nil]; omega)) (by simp; omega) ?_; intro v6 w6 h6 b6)
            go_roundw
            case rel => exact ⟨j + 1, c, acc ++ [x], true, hlt, by go_num, rfl, HA2.out.more (by omega) h6 b6, HE.out⟩
            case measure => simp [intOf]; omega
        · obtain rfl : j = l.length := by omega
          obtain ⟨q1, q2⟩ := HA.out.1.cells
          cases pl with
          | false =>
            have hal2 : acc.length + 1 ≤ l.length + 1 := by simpa using hal
            have HE := LH HP.out.last
            go_wp2_with (at_builtin; refine wpList_append_rgs _ rfl (.tmp 83) (.tmp 85) rfl w1.heap.size _ (acc) rfl (OwnR.alloc (w := wr) HA.out.2.1 _) wr.heap.size 0 1 1 _ [c] rfl rfl (rgs_one wr c _) (by first | omega | (simp only [List.length_append, List.length_cons, List.length_nil]; omega)) (by simp; omega) ?_; intro v5 w5 h5 b5)
            have HA5 := LH (HA.out.more (by omega) h5 b5)
            go_ret
            exact ⟨_, rfl, by rw [HE.out]; exact own_weaken HA5.out.2.1 (by omega), HA5.out.2.2.1⟩
          | true =>
            have HE := LH HP.out.all
            go_wp2
            go_ret
            exact ⟨_, rfl, by rw [HE.out]; exact own_weaken HA.out.2.1 (by omega), HA.out.2.2.1⟩
    · rw [decide_eq_false hf] at HF
      rw [if_neg (fun h => hf h.2)]
      clear hk hf
      go_enter Tryz.func35, Tryz.ntmps35
      go_wp2_with fail
      refine HC.out.mono ?_
      rintro e w2 ⟨rfl, hb2⟩
      have HB2 := LH hb2
      obtain ⟨rc1, rc2⟩ := HRC.out.below hb2 (by omega)
      clear hb2
      go_wp2_with fail
      refine (HF.out _).mono ?_
      rintro e w3 ⟨rfl, hb3⟩
      have HB3 := LH (HB2.out.trans (hb3.mono HB2.out.size))
      clear hb3 rc1 rc2
      have HR3 := LH (HR.out.below (by omega) HB3.out)
      have hB3 : B ≤ w3.heap.size := by have := HB3.out.size; omega
      have hw3 : w.heap.size ≤ w3.heap.size := by have := HB3.out.size; omega
      go_wp2_with fail
      refine (scopy l A cap B w3 hB3 HR3.out hn).mono ?_
      rintro e w4 ⟨v, rfl, ho4, hb4⟩
      have HO4 := LH ho4
      have HB4 := LH (HBX.out.trans ((HB3.out.mono (by omega)).trans (hb4.mono hw3)))
      clear ho4 hb4
      go_wp2
      go_ret
      exact ⟨_, rfl, own_weaken HO4.out hw3, HB4.out⟩
  · rw [decide_eq_false hk] at HC
    rw [if_neg (fun h => hk h.1)]
    clear hk
    go_enter Tryz.func35, Tryz.ntmps35
    go_wp2_with fail
    refine HC.out.mono ?_
    rintro e w3 ⟨rfl, hb3⟩
    have HB3 := LH hb3
    clear hb3
    have HR3 := LH (HR.out.below (by omega) HB3.out)
    have hB3 : B ≤ w3.heap.size := by have := HB3.out.size; omega
    have hw3 : w.heap.size ≤ w3.heap.size := by have := HB3.out.size; omega
    go_wp2_with fail
    refine (scopy l A cap B w3 hB3 HR3.out hn).mono ?_
    rintro e w4 ⟨v, rfl, ho4, hb4⟩
    have HO4 := LH ho4
    have HB4 := LH (HBX.out.trans ((HB3.out.mono (by omega)).trans (hb4.mono hw3)))
    clear ho4 hb4
    go_wp2
    go_ret
    exact ⟨_, rfl, own_weaken HO4.out hw3, HB4.out⟩
end Go.Proofs.YtdaoaedkjoknmaaGreat
