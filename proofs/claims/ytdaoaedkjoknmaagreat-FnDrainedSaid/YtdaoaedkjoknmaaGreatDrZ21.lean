/-
  Contracts and lemmas for the law on draining.
-/
import Derived.Test.YtdaoaedkjoknmaaGreatDrZ0
import Derived.Test.YtdaoaedkjoknmaaGreatDrZ6
import Derived.Test.YtdaoaedkjoknmaaGreatDrZ1
import Derived.Test.YtdaoaedkjoknmaaGreatDrZ16
import Derived.Conc.MuLone
import Derived.Test.YtdaoaedkjoknmaaGreatDrZ18
import Derived.Test.YtdaoaedkjoknmaaGreatDrZ2
import Derived.Test.YtdaoaedkjoknmaaGreatDrZ19
import Derived.Test.YtdaoaedkjoknmaaGreatDrZ12
set_option maxRecDepth 1000000
set_option maxHeartbeats 8000000
namespace Go.Proofs.YtdaoaedkjoknmaaGreat
open Go.RowKit Go.Deep Go.Proofs.YtdaoaedkjoknmaaGreat.Num Go.MuLone

theorem grown_moreN {a b c : World} {g : Option Nat} (h : a.grownBy b g) (hb : Below b.heap.size b c) : a.grownBy c g :=
  ⟨hb.os.trans h.os, hb.tape.trans h.tape, hb.output.trans h.output, Nat.le_trans h.size hb.size, fun i hi hne => (hb.block i (Nat.lt_of_lt_of_le hi h.size)).trans (h.block i hi hne)⟩
theorem icellof (g : Nat) (u sz p : Int) (l : List Int) (w : World) (x : StM w g u sz l) (h1 : 1 ≤ sz) (h2 : sz ≤ 64) (hp : 0 ≤ p) :
    Calls Tryz.prog 129 #[.pointer (some ⟨g, 0, none⟩), .int .i64 p] w fun e w' => e = .returned (.pointer (some ⟨g, 3 + atR sz p, none⟩)) ∧ Below w.heap.size w w' := by
  have hat := atR_lt h1 p
  have hrem := tmod_at h1 hp
  have hsz0 : ¬ sz = 0 := by omega
  have c2 := x.c2
  have c2d : w.drew.cell? ⟨g, 2, none⟩ = some (.int .i64 sz) := c2
  generalize atR sz p = k at *
  have hk0 : (0 : Int) ≤ (k : Int) := by omega
  have hk1 : (k : Int) < 64 := by omega
  have hkn : k < 64 := by omega
  have d0 : decide ((k : Int) < 64) = true := decide_eq_true hk1
  clear hat x h1 h2 hp
  go_enter Tryz.func129, Tryz.ntmps129
  go_wp2
  go_region
  go_wp2
  go_ret
  exact ⟨rfl, (Below.refl w.heap.size w).drew⟩

theorem iwipe (g : Nat) (sz b : Int) (n : Nat) (l : List Int) (w : World) (x : StM w g 0 sz l) (h1 : 1 ≤ sz) (h2 : sz ≤ 64) (hb : 0 ≤ b) (hn : b + (n : Int) ≤ 4611686018427387903) :
    Calls Tryz.prog 111 #[.pointer (some ⟨g, 0, none⟩), .int .i64 b, .int .i64 (b + (n : Int))] w fun e w' => e = .returned (.tuple #[]) ∧ StM w' g 0 sz (zerR sz b l n) ∧ w.grownBy w' (some g) := by
  have H1 := LH (x.lock 1)
  have HG := LH (only_setI w g 0 (.int .i32 1))
  have c0 := x.c0
  have f0 := x.free 0
  have hl64 := x.2
  clear x
  go_enter_defers Tryz.func111, Tryz.ntmps111
  go_wp2_with (go_at_call 127; refine (lock_free muLib ⟨g, 0, none⟩ _ c0 f0).mono ?_; rintro e w' ⟨rfl, rfl⟩)
  clear c0 f0
  generalize w.setCell ⟨g, 0, none⟩ (.int .i32 1) = w1 at *
  go_loopw [6] (fun i wr => ∃ j : Nat, j ≤ n ∧ i = .int .i64 (b + (j : Int)) ∧ StM wr g 1 sz (zerR sz b l j) ∧ w.grownBy wr (some g)) (fun i _ => (b + (n : Int) - intOf i).toNat)
  case atStart => exact ⟨0, Nat.zero_le _, by simp, H1.out, HG.out⟩
  case round =>
    obtain ⟨j, hj, rfl, hst, hgr⟩ := hrel
    have HS := LH hst
    have HR := LH hgr
    clear hst hgr
    by_cases hlt : j < n
    · have dlt : decide (b + (j : Int) < b + (n : Int)) = true := decide_eq_true (by omega)
      have HCO := LH (icellof g 1 sz (b + (j : Int)) _ wr HS.out h1 h2 (by omega))
      have hat := atR_lt h1 (b + (j : Int))
      have hln : (zerR sz b l j).length = l.length := zerR_len _ _ _ _
      have hkl : atR sz (b + (j : Int)) < (zerR sz b l j).length := by omega
      have HZ : Hid ((zerR sz b l j).set (atR sz (b + (j : Int))) 0 = zerR sz b l (j + 1)) := LH rfl
      have hsw : wrap64 (b + (j : Int) + 1) = b + ((j + 1 : Nat) : Int) := by unfold wrap64; omega
      have HSW := LH hsw
      generalize atR sz (b + (j : Int)) = k at *
      clear hsw hat hln
      go_wp2_with fail
      refine HCO.out.mono ?_
      rintro e w2 ⟨rfl, hb2⟩
      have HS2 := LH (HS.out.below hb2 HS.out.lt)
      have HR2 := LH (grown_moreN HR.out hb2)
      have hc := HS2.out.at k hkl
      have hfz := HS2.out.free (3 + k)
      have HS3 := LH (HS2.out.set k 0)
      rw [HZ.out] at HS3
      have HR3 := LH (only_moreI HR2.out (3 + k) (.int .i64 0))
      generalize (zerR sz b l j)[k] = y at hc
      clear hb2
      have hsw := HSW.out
      go_wp2
      go_roundw
      case rel => exact ⟨j + 1, hlt, congrArg (Value.int .i64) (by omega), HS3.out, HR3.out⟩
      case measure => simp [intOf]; omega
    · obtain rfl : j = n := by omega
      have dlt : decide (b + (j : Int) < b + (j : Int)) = false := decide_eq_false (by omega)
      have HS3 := LH (HS.out.lock 0)
      have HR3 := LH (only_moreI HR.out 0 (.int .i32 0))
      go_wp2
      refine leaves_cons (f := 128) (args := #[.pointer (some ⟨g, 0, none⟩)]) (by simp) (by simp [go_sem]) ?_
      refine (unlock_deferred muLib ⟨g, 0, none⟩ .returning _ HS.out.c0 (HS.out.free 0)).mono ?_
      rintro e u' w'' ⟨rfl, rfl, rfl⟩
      exact ⟨_, results_none rfl _ _ _, rfl, HS3.out, HR3.out⟩
end Go.Proofs.YtdaoaedkjoknmaaGreat

namespace Go.Proofs.YtdaoaedkjoknmaaGreat
open Go.RowKit Go.Deep Go.Proofs.YtdaoaedkjoknmaaGreat.Num

namespace Num
theorem remR_append (r : Rg) (a b : List Rg) : remR r (a ++ b) = remR r a ++ remR r b := by
  unfold remR
  rw [List.flatMap_append]
theorem remR_low (r : Rg) (h0 : r.1 < r.2) (l : List Rg) : ∀ p, okR p l → (∀ y ∈ l, y.2 < r.1) → remR r l = l := by
  induction l with
  | nil => intro p _ _; rfl
  | cons x l ih =>
    intro p h hr
    obtain ⟨a1, a2, a3, a4⟩ := h
    show cutR r x ++ remR r l = x :: l
    rw [ih x.2 a4 (fun y hy => hr y (List.mem_cons_of_mem _ hy))]
    have h1 := hr x List.mem_cons_self
    unfold cutR
    rw [if_pos (by omega), if_neg (by omega), show min x.2 r.1 = x.2 from by omega]
    rfl
theorem remR_from (r : Rg) (h0 : r.1 < r.2) (l : List Rg) : ∀ p, okR p l → r.2 ≤ p + 1 → remR r l = l := by
  induction l with
  | nil => intro p _ _; rfl
  | cons x l ih =>
    intro p h hr
    obtain ⟨a1, a2, a3, a4⟩ := h
    show cutR r x ++ remR r l = x :: l
    rw [ih x.2 a4 (by omega)]
    unfold cutR
    rw [if_neg (by omega), if_pos (by omega), show max x.1 r.2 = x.1 from by omega]
    rfl
end Num

theorem irem_no (l : List Rg) (r : Rg) (A : Option Addr) (cap B : Nat) (w : World) (hB : B ≤ w.heap.size) (hr : Rgs w B A l) (hn : l.length ≤ 1000000000) (hk : ¬ (okR (-1) l ∧ fineR r)) :
    Calls Tryz.prog 102 #[.slice A l.length cap, rgV r] w fun e w' => ∃ v, e = .returned v ∧ OwnR w' w.heap.size v l ∧ Below w.heap.size w w' := by
  have HBX := LH ((Below.refl w.heap.size w).alloc (Nat.le_refl _) (.cells #[.int .i64 r.1, .int .i64 r.2] 59))
  have hbox := Box.new w r
  have hsz : (w.alloc (.cells #[.int .i64 r.1, .int .i64 r.2] 59)).heap.size = w.heap.size + 1 := by simp
  have hr1 : Rgs (w.alloc (.cells #[.int .i64 r.1, .int .i64 r.2] 59)) B A l := hr.keep fun k hk => heap_alloc_old w _ (by omega)
  generalize hw1 : w.alloc (.cells #[.int .i64 r.1, .int .i64 r.2] 59) = w1 at *
  have HC := LH (iisr l A cap B w1 (by omega) hr1 hn)
  have HX := LH hbox
  have HR := LH hr1
  clear hr hr1 hbox
  by_cases h1 : okR (-1) l
  · have h2 : ¬ fineR r := fun h => hk ⟨h1, h⟩
    rw [decide_eq_true h1] at HC
    have h3 : ¬ okR (-1) [r] := fun h => h2 ((ok_one r).1 h)
    have HO : Hid (∀ W, Below w1.heap.size w1 W → Calls Tryz.prog 86 #[.slice (some ⟨W.heap.size, 0, none⟩) 1 1] (W.alloc (.cells #[.int .i64 r.1, .int .i64 r.2] 59)) fun e w' => e = .returned (.bool false) ∧ Below (W.heap.size + 1) (W.alloc (.cells #[.int .i64 r.1, .int .i64 r.2] 59)) w') := LH fun W hW => by
      have := iisr [r] (some ⟨W.heap.size, 0, none⟩) 1 (W.heap.size + 1) (W.alloc (.cells #[.int .i64 r.1, .int .i64 r.2] 59)) (by simp) (rgs_one W r _) (by simp)
      rw [decide_eq_false h3] at this
      simpa using this
    clear hk h1 h2 h3
    go_enter Tryz.func102, Tryz.ntmps102
    go_wp2_with fail
    refine HC.out.mono ?_
    rintro e w2 ⟨rfl, hb2⟩
    have HB2 := LH hb2
    obtain ⟨q1, q2⟩ := Box.cells (w := w2) (g := w.heap.size) (x := r) ((hb2.block _ (by omega)).trans HX.out)
    clear hb2
    go_wp2_with fail
    refine (HO.out w2 HB2.out).mono ?_
    rintro e w3 ⟨rfl, hb3⟩
    have HB3 := LH ((HB2.out.alloc HB2.out.size (.cells #[.int .i64 r.1, .int .i64 r.2] 59)).trans (hb3.mono (by have := HB2.out.size; omega)))
    have hw3 : w1.heap.size ≤ w3.heap.size := HB3.out.size
    clear hb3 q1 q2
    go_wp2_with fail
    refine (iclone l A cap B w3 (by omega) (HR.out.below (by omega) HB3.out) hn).mono ?_
    rintro e w4 ⟨v, rfl, ho4, hb4⟩
    have HO4 := LH ho4
    have HB4 := LH (HBX.out.trans ((HB3.out.mono (by omega)).trans (hb4.mono (by omega))))
    clear ho4 hb4
    go_wp2
    go_ret
    exact ⟨_, rfl, own_weaken HO4.out (by omega), HB4.out⟩
  · rw [decide_eq_false h1] at HC
    clear hk h1
    go_enter Tryz.func102, Tryz.ntmps102
    go_wp2_with fail
    refine HC.out.mono ?_
    rintro e w3 ⟨rfl, hb3⟩
    have HB3 := LH hb3
    have hw3 : w1.heap.size ≤ w3.heap.size := HB3.out.size
    clear hb3
    go_wp2_with fail
    refine (iclone l A cap B w3 (by omega) (HR.out.below (by omega) HB3.out) hn).mono ?_
    rintro e w4 ⟨v, rfl, ho4, hb4⟩
    have HO4 := LH ho4
    have HB4 := LH (HBX.out.trans ((HB3.out.mono (by omega)).trans (hb4.mono (by omega))))
    clear ho4 hb4
    go_wp2
    go_ret
    exact ⟨_, rfl, own_weaken HO4.out (by omega), HB4.out⟩

structure RemSt (w : World) (base h g : Nat) (l : List Rg) (r : Rg) (wr : World) (L1 L2 : List (Nat × Rg)) (eb eo : Nat) : Prop where
  st : St wr base h L1 L2 eb eo
  box : Box wr g r
  eq : remR r l = L1.map (·.2) ++ remR r (L2.map (·.2))
  ok : ∃ q, okR q (L2.map (·.2))
  high : HighL L2 r.1
  below : Below g w wr
  size : base ≤ wr.heap.size
  len : L1.length + 2 * L2.length ≤ 2 * l.length
theorem RemSt.drewN {w : World} {base h g : Nat} {l : List Rg} {r : Rg} {wr : World} {L1 L2 : List (Nat × Rg)} {eb eo : Nat} (a : RemSt w base h g l r wr L1 L2 eb eo) (n : Nat) : RemSt w base h g l r (wr.drewN n) L1 L2 eb eo :=
  { st := a.st.drewN n, box := a.box, eq := a.eq, ok := a.ok, high := a.high, below := belowR_drewN a.below n, size := a.size, len := a.len }

theorem irem_yes (l : List Rg) (r : Rg) (A : Option Addr) (cap B : Nat) (w : World) (hB : B ≤ w.heap.size) (hr : Rgs w B A l) (hn : l.length ≤ 2000000) (hk : okR (-1) l) (hf : fineR r) :
    Calls Tryz.prog 102 #[.slice A l.length cap, rgV r] w fun e w' => ∃ v, e = .returned v ∧ OwnR w' w.heap.size v (remR r l) ∧ Below w.heap.size w w' := by
  have HBX := LH ((Below.refl w.heap.size w).alloc (Nat.le_refl _) (.cells #[.int .i64 r.1, .int .i64 r.2] 59))
  have hbox := Box.new w r
  have hsz : (w.alloc (.cells #[.int .i64 r.1, .int .i64 r.2] 59)).heap.size = w.heap.size + 1 := by simp
  have hr1 : Rgs (w.alloc (.cells #[.int .i64 r.1, .int .i64 r.2] 59)) B A l := hr.keep fun k hk => heap_alloc_old w _ (by omega)
  generalize hw1 : w.alloc (.cells #[.int .i64 r.1, .int .i64 r.2] 59) = w1 at *
  have HC := LH (iisr l A cap B w1 (by omega) hr1 (by omega))
  rw [decide_eq_true hk] at HC
  have HX := LH hbox
  have HR := LH hr1
  have HO : Hid (∀ W, Below w1.heap.size w1 W → Calls Tryz.prog 86 #[.slice (some ⟨W.heap.size, 0, none⟩) 1 1] (W.alloc (.cells #[.int .i64 r.1, .int .i64 r.2] 59)) fun e w' => e = .returned (.bool true) ∧ Below (W.heap.size + 1) (W.alloc (.cells #[.int .i64 r.1, .int .i64 r.2] 59)) w') := LH fun W hW => by
    have := iisr [r] (some ⟨W.heap.size, 0, none⟩) 1 (W.heap.size + 1) (W.alloc (.cells #[.int .i64 r.1, .int .i64 r.2] 59)) (by simp) (rgs_one W r _) (by simp)
    rw [decide_eq_true ((ok_one r).2 hf)] at this
    simpa using this
  have HK := LH hk
  have HF := LH hf
  clear hr hr1 hbox hk hf
  go_enter Tryz.func102, Tryz.ntmps102
  go_wp2_with fail
  refine HC.out.mono ?_
  rintro e w2 ⟨rfl, hb2⟩
  have HB2 := LH hb2
  obtain ⟨q1, q2⟩ := Box.cells (w := w2) (g := w.heap.size) (x := r) ((hb2.block _ (by omega)).trans HX.out)
  clear hb2
  go_wp2_with fail
  refine (HO.out w2 HB2.out).mono ?_
  rintro e w3 ⟨rfl, hb3⟩
  have HB3 := LH ((HB2.out.alloc HB2.out.size (.cells #[.int .i64 r.1, .int .i64 r.2] 59)).trans (hb3.mono (by have := HB2.out.size; omega)))
  have hw3 : w1.heap.size ≤ w3.heap.size := HB3.out.size
  clear hb3 q1 q2
  go_wp2_with fail
  refine (ilinks l A cap B w3 (by omega) (HR.out.below (by omega) HB3.out) (by omega)).mono ?_
  rintro e w4 ⟨p, L, rfl, hl4, hm4, hnd4, hk4, hb4⟩
  have HB4 := LH (HB3.out.trans (hb4.mono hw3))
  have hw4 : w1.heap.size ≤ w4.heap.size := HB4.out.size
  have HS := LH (St.start (t := 115) hl4 hnd4 (base := w1.heap.size) (fun b hb => ⟨by have := (hk4 b hb).1; omega, (hk4 b hb).2⟩) hw4)
  have HB5 := LH (HB4.out.alloc hw4 (.cells #[.pointer p] 115))
  have HM := LH hm4
  obtain ⟨q1, q2⟩ := Box.cells (w := w4.alloc (.cells #[.pointer p] 115)) (g := w.heap.size) (x := r) ((HB5.out.block _ (by omega)).trans HX.out)
  clear hl4 hm4 hnd4 hk4 hb4
  go_wp2_with fail
  refine (ireach HS.out r.1).mono ?_
  rintro e w5 ⟨L1, L2, eb, eo, rfl, hL, hs5, hlow, hhigh, hw5⟩
  replace hw5 := hw5.symm
  subst hw5
  have HA : Hid (RemSt w w1.heap.size w4.heap.size w.heap.size l r _ L1 L2 eb eo) := LH
    { st := hs5, box := (HB5.out.block _ (by omega)).trans HX.out,
      eq := by
        have hk := HK.out
        rw [← HM.out, hL, List.map_append] at hk
        rw [← HM.out, hL, List.map_append, remR_append, remR_low r HF.out.2.1 _ (-1) hk.prefix hlow.all],
      ok := by have := HK.out; rw [← HM.out, hL, List.map_append] at this; exact this.suffix,
      high := hhigh, below := HBX.out.trans (HB5.out.mono (by omega)), size := HB5.out.size,
      len := by have := congrArg List.length HM.out; rw [hL] at this; simp at this; omega }
  have HFR := LH HF.out.2.1
  clear hL hs5 hlow hhigh q1 q2 HS HM HB5 HB4 HB3 HB2 HC HR HO HK HF
  go_wp2
  go_loopw [6] (fun v wr => ∃ L1 L2 eb eo, v = .pointer (some ⟨eb, eo, none⟩) ∧ RemSt w w1.heap.size w4.heap.size w.heap.size l r wr L1 L2 eb eo) (fun v wr => lenLink wr l.length v)
  case atStart => exact ⟨L1, L2, eb, eo, rfl, HA.out⟩
  case round =>
    clear HA
    obtain ⟨L1, L2, eb, eo, rfl, ha⟩ := hrel
    have HA := LH ha
    clear ha
    obtain ⟨q1, q2⟩ := HA.out.box.cells
    cases L2 with
    | nil =>
      obtain ⟨p, c1, c2⟩ := HA.out.st.rest
      cases c2
      have HE : Hid (remR r (([] : List (Nat × Rg)).map (·.2)) = ([] : List (Nat × Rg)).map (·.2)) := LH rfl
      go_wp2
      go_quiet (fail)
      have HQ := LH (HA.out.drewN nq)
      clear HA c1 q1 q2
      generalize wr.drewN nq = wq at *
      obtain ⟨p6, c6, c7⟩ := HQ.out.st.rest
      obtain ⟨q6, d6, l6⟩ := HQ.out.st.seg.all c6 c7
      have HL6 := LH l6
      have hn6 : (L1 ++ ([] : List (Nat × Rg))).length ≤ 1000000000 := by
        have h2 := HQ.out.len
        rw [List.length_append]
        omega
      clear c6 c7 l6
      go_wp2_with fail
      refine (ilist HL6.out (fun b hb => (HQ.out.st.old b (List.mem_cons_of_mem _ hb)).2) hn6).mono ?_
      rintro e w7 ⟨v, rfl, ho7, hb7⟩
      have HO7 := LH ho7
      have HB7 := LH (HQ.out.below.trans (hb7.mono HQ.out.below.size))
      have hw6 : w.heap.size ≤ wq.heap.size := HQ.out.below.size
      have HE7 : Hid (remR r l = (L1 ++ ([] : List (Nat × Rg))).map (·.2)) := LH (by rw [List.map_append, HQ.out.eq, HE.out])
      clear ho7 hb7
      go_wp2
      go_ret
      exact ⟨_, rfl, by rw [HE7.out]; exact own_weaken HO7.out hw6, HB7.out⟩
    | cons y L2 =>
      obtain ⟨b, x⟩ := y
      obtain ⟨c1, c2, c3, _⟩ := HA.out.st.cut
      obtain ⟨q, hq⟩ := HA.out.ok
      have hhi : r.1 ≤ x.2 := HA.out.high
      by_cases hx : x.1 < r.2
      · have hd : decide (x.1 < r.2) = true := decide_eq_true hx
        have HQ2 : Hid (okR x.2 (L2.map (·.2))) := LH hq.2.2.2
        have HE : Hid (remR r (((b, x) :: L2).map (·.2)) = (if x.1 < r.1 then [(x.1, r.1)] else []) ++ (if r.2 < x.2 then [(r.2, x.2)] else []) ++ remR r (L2.map (·.2))) := LH (by
          show cutR r x ++ remR r (L2.map (·.2)) = _
          congr 1
          unfold cutR
          rw [show min x.2 r.1 = r.1 from by omega, show max x.1 r.2 = r.2 from by omega])
        have HH2 : Hid (HighL L2 r.1) := LH (by
          cases L2 with
          | nil => trivial
          | cons z L2 =>
            have h1 := HQ2.out
            show r.1 ≤ z.2.2
            have h2 : x.2 < z.2.1 := h1.1
            have h3 : z.2.1 < z.2.2 := h1.2.1
            omega)
        clear hx hq hhi
        go_wp2
        go_quiet (fail)
        have HQ := LH (HA.out.drewN nq)
        have hlw : lenLink wr l.length (.pointer (some ⟨eb, eo, none⟩)) = L2.length + 1 := HA.out.st.len (by have := HA.out.len; simp at this ⊢; omega)
        clear HA c1 q1 q2 c2 c3
        generalize wr.drewN nq = wq at *
        go_wp2_with fail
        refine (icut HQ.out.st HQ.out.size).mono ?_
        rintro e w6 ⟨rfl, hs6, hb6⟩
        have hw6 : w1.heap.size ≤ w6.heap.size := Nat.le_trans HQ.out.size hb6.size
        have HX6 : Hid (Box (w6.alloc (.cells #[.int .i64 x.1, .int .i64 x.2] 59)) w.heap.size r) := LH ((heap_alloc_old w6 _ (by omega)).trans ((hb6.block _ (by omega)).trans HQ.out.box))
        have HN6 : Hid (eb < w6.heap.size) := LH (hs6.old eb hs6.emem).2
        have HY6 : Hid (Box (w6.alloc (.cells #[.int .i64 x.1, .int .i64 x.2] 59)) w6.heap.size x) := LH (Box.new w6 x)
        have HB6 := LH ((HQ.out.below.trans (hb6.mono (by omega))).alloc (by omega) (.cells #[.int .i64 x.1, .int .i64 x.2] 59))
        have HS6 := LH (hs6.below ((Below.refl _ w6).alloc (Nat.le_refl _) (.cells #[.int .i64 x.1, .int .i64 x.2] 59)))
        obtain ⟨q1, q2⟩ := HX6.out.cells
        obtain ⟨r1, r2⟩ := HY6.out.cells
        have hw7 : w1.heap.size ≤ (w6.alloc (.cells #[.int .i64 x.1, .int .i64 x.2] 59)).heap.size := by simp; omega
        clear hs6 hb6
        go_wp2_with fail
        refine (iput HS6.out (x.1, r.1) hw7).mono ?_
        rintro e w8 ⟨eb8, eo8, L8, rfl, hm8, hs8, hb8, hk8⟩
        have hne : w6.heap.size ≠ eb := by have := (HS6.out.old eb HS6.out.emem).2; have := HN6.out; omega
        have HM8 := LH hm8
        have HS8 := LH hs8
        have HX8 : Hid (Box w8 w.heap.size r) := LH ((hb8.block _ (by omega)).trans HX6.out)
        have HY8 : Hid (Box w8 w6.heap.size x) := LH ((hk8 _ (by simp) hne).trans HY6.out)
        have HB8 := LH (HB6.out.trans (hb8.mono (by omega)))
        have hw8 : w1.heap.size ≤ w8.heap.size := Nat.le_trans hw7 hb8.size
        clear hm8 hs8 hb8 hk8 q1 q2 r1 r2
        obtain ⟨q1, q2⟩ := HX8.out.cells
        obtain ⟨r1, r2⟩ := HY8.out.cells
        go_wp2_with fail
        refine (iput HS8.out (r.2, x.2) hw8).mono ?_
        rintro e w9 ⟨eb9, eo9, L9, rfl, hm9, hs9, hb9, _⟩
        have HM9 := LH hm9
        have HS9 := LH hs9
        have HX9 : Hid (Box w9 w.heap.size r) := LH ((hb9.block _ (by omega)).trans HX8.out)
        have HB9 := LH (HB8.out.trans (hb9.mono (by omega)))
        have hw9 : w1.heap.size ≤ w9.heap.size := Nat.le_trans hw8 hb9.size
        clear hm9 hs9 hb9 q1 q2 r1 r2
        have HL9 : Hid (L9.length ≤ L1.length + 2) := LH (by
          have e : L9.length = (L9.map (·.2)).length := by simp
          rw [e, HM9.out, List.length_append, HM8.out, List.length_append, List.length_map]
          split <;> split <;> simp <;> omega)
        go_wp2
        go_roundw
        case rel =>
          exact ⟨L9, L2, eb9, eo9, rfl, { st := HS9.out, box := HX9.out, eq := by rw [HQ.out.eq, HE.out, HM9.out, HM8.out]; simp only [List.append_assoc], ok := ⟨_, HQ2.out⟩, high := HH2.out, below := HB9.out, size := hw9, len := by have := HQ.out.len; have := HL9.out; simp at *; omega }⟩
        case measure =>
          rw [HS9.out.len (by have := HQ.out.len; simp at this; omega), hlw]
          omega
      · have hd : decide (x.1 < r.2) = false := decide_eq_false hx
        have HE : Hid (remR r (((b, x) :: L2).map (·.2)) = ((b, x) :: L2).map (·.2)) := LH (remR_from r HFR.out _ (x.1 - 1) ⟨by show x.1 - 1 < x.1; omega, hq.2⟩ (by omega))
        clear hx hq hhi
        go_wp2
        go_quiet (fail)
        have HQ := LH (HA.out.drewN nq)
        clear HA c1 q1 q2 c2 c3
        generalize wr.drewN nq = wq at *
        obtain ⟨p6, c6, c7⟩ := HQ.out.st.rest
        obtain ⟨q6, d6, l6⟩ := HQ.out.st.seg.all c6 c7
        have HL6 := LH l6
        have hn6 : (L1 ++ ((b, x) :: L2)).length ≤ 1000000000 := by
          have h2 := HQ.out.len
          rw [List.length_append]
          omega
        clear c6 c7 l6
        go_wp2_with fail
        refine (ilist HL6.out (fun b hb => (HQ.out.st.old b (List.mem_cons_of_mem _ hb)).2) hn6).mono ?_
        rintro e w7 ⟨v, rfl, ho7, hb7⟩
        have HO7 := LH ho7
        have HB7 := LH (HQ.out.below.trans (hb7.mono HQ.out.below.size))
        have hw6 : w.heap.size ≤ wq.heap.size := HQ.out.below.size
        have HE7 : Hid (remR r l = (L1 ++ ((b, x) :: L2)).map (·.2)) := LH (by rw [List.map_append, HQ.out.eq, HE.out])
        clear ho7 hb7
        go_wp2
        go_ret
        exact ⟨_, rfl, by rw [HE7.out]; exact own_weaken HO7.out hw6, HB7.out⟩

theorem bad_true {r : Rc} {n : Int} : badRc r n true ↔ (n < r.hi ∨ (r.fin ≠ -1 ∧ n ≠ r.fin)) := by
  unfold badRc
  constructor
  · rintro (⟨h1, h2 | ⟨_, h2⟩⟩ | ⟨_, h⟩)
    · exact .inr ⟨h1, by omega⟩
    · exact .inr ⟨h1, h2⟩
    · exact .inl h
  · rintro (h | ⟨h1, h2⟩)
    · exact .inr ⟨rfl, h⟩
    · exact .inl ⟨h1, .inr ⟨rfl, h2⟩⟩
theorem okRc_st {r : Rc} (h : okRc r) : 0 ≤ r.st ∧ r.st ≤ 5 := by
  rcases h.2 with ⟨h0, _⟩ | ⟨h0, _⟩ | ⟨h0, _⟩ | ⟨h0, _⟩ | ⟨h0 | h0, _⟩ <;> omega
theorem iclonerc (r : Rc) (A : Option Addr) (cap B : Nat) (w : World) (hB : B ≤ w.heap.size) (hr : Chs w B A r.buf.chs) (hn : r.buf.chs.length ≤ 1000000000) :
    Calls Tryz.prog 48 #[rcV r (.slice A r.buf.chs.length cap)] w fun e w' => ∃ v, e = .returned (rcV r v) ∧ OwnX w' w.heap.size v r.buf.chs ∧ Below w.heap.size w w' := by
  have HH := LH (IrX.start w r (.slice A r.buf.chs.length cap))
  have HCB : Hid (∀ W, Below w.heap.size w W → Calls Tryz.prog 106 #[bfV r.buf.next (.slice A r.buf.chs.length cap)] W fun e w' => ∃ v, e = .returned (bfV r.buf.next v) ∧ OwnC w' W.heap.size v r.buf.chs ∧ Below W.heap.size W w') := LH fun W h => icloneb r.buf.next r.buf.chs A cap B W (Nat.le_trans hB h.size) (hr.below hB h) hn
  clear hr hn
  go_enter Tryz.func48, Tryz.ntmps48
  obtain ⟨a0, a1, a2, a3, a4, a5⟩ := HH.out.b.cells
  go_wp2_with fail
  refine (HCB.out _ HH.out.bl).mono ?_
  rintro e w3 ⟨v3, rfl, ho3, hb3⟩
  have HO := LH (ho3.x.weaken (base' := w.heap.size + 2) HH.out.o.lt)
  have HH := LH (HH.out.next hb3)
  obtain ⟨A3, c3, rfl, _, _⟩ := HO.out.frs
  clear ho3 hb3 a0 a1 a2 a3 a4 a5
  obtain ⟨a0, a1, a2, a3, a4, a5⟩ := HH.out.b.cells
  have bf := HH.out.b.free
  go_upto_region 2 with fail
  have HO := LH ((HO.out.apart w.heap.size 1 (.int .i64 r.buf.next) (by omega)).apart w.heap.size 2 (.slice A3 r.buf.chs.length c3) (by omega))
  have HH := LH (HH.out.putB r.buf.next r.buf.chs (.slice A3 r.buf.chs.length c3))
  clear bf a0 a1 a2 a3 a4 a5
  generalize (w3.setCell ⟨w.heap.size, 1, none⟩ (.int .i64 r.buf.next)).setCell ⟨w.heap.size, 2, none⟩ (.slice A3 r.buf.chs.length c3) = w4 at *
  obtain ⟨a0, a1, a2, a3, a4, a5⟩ := HH.out.b.cells
  simp only at a0 a1 a2 a3 a4 a5
  obtain ⟨p0, p1, p2, p3, p4, p5⟩ := HH.out.o.cells
  have pf := HH.out.o.free
  go_wp2
  refine bodyPost_ret (results_cell_row rfl _ _ (w.heap.size + 1) _ _ _ _ rfl (HH.out.out r.st r.buf.next _ r.fin r.hi r.code r.buf.chs HO.out).1 Tryz.underlying40 rfl (by kernel_rfl)) rfl ?_
  exact ⟨_, rfl, (HH.out.out r.st r.buf.next _ r.fin r.hi r.code r.buf.chs HO.out).2.1, (HH.out.out r.st r.buf.next _ r.fin r.hi r.code r.buf.chs HO.out).2.2⟩

theorem read_beh {r : Rc} (m : Int) (h : okRc r) : readRc r m = (headT r.buf (cntT r.buf m), ⟨behRc ⟨r.st, dropT r.buf (cntT r.buf m), r.fin, r.hi, r.code⟩, dropT r.buf (cntT r.buf m), r.fin, r.hi, r.code⟩) := by
  unfold readRc
  rw [if_neg (fun h2 => h2 h)]
  by_cases h4 : r.st = 4
  · have hc : r.buf.chs = [] := by
      rcases h.2 with ⟨h0, _⟩ | ⟨h0, _⟩ | ⟨h0, _⟩ | ⟨h0, _⟩ | ⟨_, _, _, h0⟩
      · omega
      · omega
      · omega
      · omega
      · exact h0
    have hr : rdyB r.buf = 0 := by
      by_cases h5 : rdyB r.buf = 0
      · exact h5
      · obtain ⟨_, c, l, hl, _, _⟩ := rdyB_pos h5
        rw [hc] at hl
        cases hl
    have h0 : cntT r.buf m = 0 := by unfold cntT; omega
    rw [if_pos h4, h0, show dropT r.buf 0 = r.buf from if_pos rfl, show headT r.buf 0 = ⟨#[]⟩ from if_pos rfl]
    have hb : behRc ⟨r.st, r.buf, r.fin, r.hi, r.code⟩ = 5 := (if_neg (fun h3 => by have h6 : r.st = 2 := h3.1; omega)).trans (if_pos h4)
    rw [hb]
  · rw [if_neg h4]
    have hb : behRc ⟨r.st, dropT r.buf (cntT r.buf m), r.fin, r.hi, r.code⟩ = if r.st = 2 ∧ (dropT r.buf (cntT r.buf m)).next = r.fin then 3 else r.st := by
      unfold behRc
      by_cases h2 : r.st = 2 ∧ (dropT r.buf (cntT r.buf m)).next = r.fin
      · exact (if_pos h2).trans (if_pos h2).symm
      · exact (if_neg h2).trans ((if_neg h4).trans (if_neg h2).symm)
    rw [hb]
theorem ireadrc (r : Rc) (m : Int) (A : Option Addr) (cap B : Nat) (w : World) (hB : B ≤ w.heap.size) (hr : Chs w B A r.buf.chs) (hn : r.buf.chs.length ≤ 10000000) (hi : inB r.buf.chs) (hx : inRc r) (hm : -9223372036854775808 ≤ m ∧ m ≤ 9223372036854775807) :
    Calls Tryz.prog 18 #[rcV r (.slice A r.buf.chs.length cap), .int .i64 m] w fun e w' => ∃ v, e = .returned (.tuple #[.string (readRc r m).1, rcV (readRc r m).2 v]) ∧ OwnX w' w.heap.size v (readRc r m).2.buf.chs ∧ Below w.heap.size w w' := by
  have HH := LH (IrX.start w r (.slice A r.buf.chs.length cap))
  have HIR : Hid (∀ W, Below w.heap.size w W → Calls Tryz.prog 46 #[rcV r (.slice A r.buf.chs.length cap)] W fun e w' => e = .returned (.bool (decide (okRc r))) ∧ Below W.heap.size W w') := LH fun W h => iisrc r A cap B W (Nat.le_trans hB h.size) (hr.below hB h) (by omega) hi hx
  have HCL : Hid (∀ W, Below w.heap.size w W → Calls Tryz.prog 48 #[rcV r (.slice A r.buf.chs.length cap)] W fun e w' => ∃ v, e = .returned (rcV r v) ∧ OwnX w' W.heap.size v r.buf.chs ∧ Below W.heap.size W w') := LH fun W h => iclonerc r A cap B W (Nat.le_trans hB h.size) (hr.below hB h) (by omega)
  have HTK : Hid (∀ W, Below w.heap.size w W → Calls Tryz.prog 56 #[bfV r.buf.next (.slice A r.buf.chs.length cap), .int .i64 m] W fun e w' => ∃ v, e = .returned (.tuple #[.string (headT r.buf (cntT r.buf m)), bfV (dropT r.buf (cntT r.buf m)).next v]) ∧ OwnX w' W.heap.size v (dropT r.buf (cntT r.buf m)).chs ∧ Below W.heap.size W w') := LH fun W h => itake r.buf m A cap B W (Nat.le_trans hB h.size) (hr.below hB h) hn hi hx.2.1 hm
  by_cases hok : okRc r
  rotate_left
  · have hv : readRc r m = (⟨#[]⟩, r) := if_pos hok
    rw [hv]
    rw [decide_eq_false hok] at HIR
    clear hv hok hm
    clear hr hi hx hn
    go_enter Tryz.func18, Tryz.ntmps18
    obtain ⟨a0, a1, a2, a3, a4, a5⟩ := HH.out.b.cells
    go_wp2_with fail
    refine (HIR.out _ HH.out.bl).mono ?_
    rintro e w1 ⟨rfl, hb1⟩
    have HH := LH (HH.out.next hb1)
    clear hb1 a0 a1 a2 a3 a4 a5
    obtain ⟨a0, a1, a2, a3, a4, a5⟩ := HH.out.b.cells
    go_wp2_with fail
    refine (HCL.out _ HH.out.bl).mono ?_
    rintro e w3 ⟨v3, rfl, ho3, hb3⟩
    have HO := LH (ho3.weaken (base' := w.heap.size + 2) HH.out.o.lt)
    have HH := LH (HH.out.next hb3)
    obtain ⟨A3, c3, rfl, _, _⟩ := HO.out.frs
    clear ho3 hb3 a0 a1 a2 a3 a4 a5
    obtain ⟨p0, p1, p2, p3, p4, p5⟩ := HH.out.o.cells
    have pf := HH.out.o.free
    go_wp2
    refine bodyPost_ret (results_tmp_cell rfl _ _ (w.heap.size + 1) _ _ _ _ rfl (HH.out.out r.st r.buf.next _ r.fin r.hi r.code r.buf.chs HO.out).1 Tryz.underlying40 rfl (by kernel_rfl)) rfl ?_
    exact ⟨_, rfl, (HH.out.out r.st r.buf.next _ r.fin r.hi r.code r.buf.chs HO.out).2.1, (HH.out.out r.st r.buf.next _ r.fin r.hi r.code r.buf.chs HO.out).2.2⟩
  rw [read_beh m hok]
  rw [decide_eq_true hok] at HIR
  clear hok hm
  clear hr hi hx hn
  generalize headT r.buf (cntT r.buf m) = s at *
  generalize dropT r.buf (cntT r.buf m) = b at *
  obtain ⟨nx, L⟩ := b
  dsimp only at *
  obtain ⟨q, hq⟩ : ∃ q, behRc ⟨r.st, ⟨nx, L⟩, r.fin, r.hi, r.code⟩ = q := ⟨_, rfl⟩
  have HBE : Hid (∀ A3 c3 W, Chs W W.heap.size A3 L → Calls Tryz.prog 57 #[rcV ⟨r.st, ⟨nx, L⟩, r.fin, r.hi, r.code⟩ (.slice A3 L.length c3)] W fun e w' => e = .returned (.int .i64 q) ∧ Below W.heap.size W w') := LH fun A3 c3 W h => by
    rw [← hq]
    exact ibeh ⟨r.st, ⟨nx, L⟩, r.fin, r.hi, r.code⟩ A3 c3 W.heap.size W (Nat.le_refl _) h
  rw [hq]
  clear hq
  go_enter Tryz.func18, Tryz.ntmps18
  obtain ⟨a0, a1, a2, a3, a4, a5⟩ := HH.out.b.cells
  go_wp2_with fail
  refine (HIR.out _ HH.out.bl).mono ?_
  rintro e w1 ⟨rfl, hb1⟩
  have HH := LH (HH.out.next hb1)
  clear hb1 a0 a1 a2 a3 a4 a5
  obtain ⟨a0, a1, a2, a3, a4, a5⟩ := HH.out.b.cells
  go_wp2_with fail
  refine (HTK.out _ HH.out.bl).mono ?_
  rintro e w3 ⟨v3, rfl, ho3, hb3⟩
  have HO := LH ((ho3.weaken (base' := w.heap.size + 2) HH.out.o.lt).alloc (.cells #[.int .i64 nx, v3] 38))
  obtain ⟨A3, c3, rfl, _, _⟩ := HO.out.frs
  have HH := LH ((HH.out.next hb3).alloc (.cells #[.int .i64 nx, .slice A3 L.length c3] 38))
  have HK := LH (BoxB.new w3 nx (.slice A3 L.length c3))
  clear ho3 hb3 a0 a1 a2 a3 a4 a5
  go_upto_region 4 with fail
  generalize w3.alloc (.cells #[.int .i64 nx, .slice A3 L.length c3] 38) = w4 at *
  generalize w3.heap.size = gk at *
  obtain ⟨a0, a1, a2, a3, a4, a5⟩ := HH.out.b.cells
  obtain ⟨k0, k1⟩ := HK.out.cells
  have bf := HH.out.b.free
  go_upto_region 5 with fail
  have HO := LH ((HO.out.apart w.heap.size 1 (.int .i64 nx) (by omega)).apart w.heap.size 2 (.slice A3 L.length c3) (by omega))
  have HH := LH (HH.out.putB nx L (.slice A3 L.length c3))
  clear bf k0 k1 a0 a1 a2 a3 a4 a5
  generalize (w4.setCell ⟨w.heap.size, 1, none⟩ (.int .i64 nx)).setCell ⟨w.heap.size, 2, none⟩ (.slice A3 L.length c3) = w5 at *
  obtain ⟨a0, a1, a2, a3, a4, a5⟩ := HH.out.b.cells
  simp only at a0 a1 a2 a3 a4 a5
  go_wp2_with fail
  refine (HBE.out A3 c3 w5 HO.out.chs).mono ?_
  rintro e w6 ⟨rfl, hb6⟩
  have HH := LH (HH.out.next hb6)
  have HO := LH (HO.out.later hb6)
  clear hb6 a0 a1 a2 a3 a4 a5
  obtain ⟨a0, a1, a2, a3, a4, a5⟩ := HH.out.b.cells
  have bf := HH.out.b.free
  go_upto_region 6 with fail
  have HO := LH (HO.out.apart w.heap.size 0 (.int .i64 q) (by omega))
  have HH := LH (HH.out.put0 q)
  clear bf a0 a1 a2 a3 a4 a5
  generalize w6.setCell ⟨w.heap.size, 0, none⟩ (.int .i64 q) = w7 at *
  obtain ⟨a0, a1, a2, a3, a4, a5⟩ := HH.out.b.cells
  simp only at a0 a1 a2 a3 a4 a5
  obtain ⟨p0, p1, p2, p3, p4, p5⟩ := HH.out.o.cells
  have pf := HH.out.o.free
  go_region
  go_wp2
  have X := HH.out.out q nx (.slice A3 L.length c3) r.fin r.hi r.code L HO.out
  refine bodyPost_ret (results_tmp_cell rfl _ _ (w.heap.size + 1) _ _ _ _ rfl (BoxR.drew X.1) Tryz.underlying40 rfl (by kernel_rfl)) rfl ?_
  exact ⟨_, rfl, OwnX.later X.2.1 (Below.refl _ _).drew, X.2.2.drew⟩
end Go.Proofs.YtdaoaedkjoknmaaGreat
