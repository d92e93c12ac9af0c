/-
  What impl.RemoveRange returns.
-/
import Derived.Test.YtjgabiklmloogaaDoorIAdd
namespace Go.Proofs.YtjgabiklmloogaaDoor
open Go.RowKit Go.Deep Go.Proofs.YtjgabiklmloogaaDoor.Num

namespace Num
theorem remR_append (r : Rg) (a b : List Rg) : remR r (a ++ b) = remR r a ++ remR r b := by
  unfold remR
  rw [List.flatMap_append]
theorem remR_low (r : Rg) (h0 : r.1 < r.2) (l : List Rg) : ∀ p, okR p l → (∀ y ∈ l, y.2 < r.1) → remR r l = l := by
  induction l with
  | nil => intro p _ _; rfl
  | cons x l ih =>
    intro p h hr
    obtain ⟨a1, a2, a3, a4⟩ := h
    show cutR r x ++ remR r l = x :: l
    rw [ih x.2 a4 (fun y hy => hr y (List.mem_cons_of_mem _ hy))]
    have h1 := hr x List.mem_cons_self
    unfold cutR
    rw [if_pos (by omega), if_neg (by omega), show min x.2 r.1 = x.2 from by omega]
    rfl
theorem remR_from (r : Rg) (h0 : r.1 < r.2) (l : List Rg) : ∀ p, okR p l → r.2 ≤ p + 1 → remR r l = l := by
  induction l with
  | nil => intro p _ _; rfl
  | cons x l ih =>
    intro p h hr
    obtain ⟨a1, a2, a3, a4⟩ := h
    show cutR r x ++ remR r l = x :: l
    rw [ih x.2 a4 (by omega)]
    unfold cutR
    rw [if_neg (by omega), if_pos (by omega), show max x.1 r.2 = x.1 from by omega]
    rfl
end Num

set_option maxRecDepth 100000 in
set_option maxHeartbeats 2000000 in
/-- impl.RemoveRange, where the list or the range is not valid -/
theorem irem_no (l : List Rg) (r : Rg) (A : Option Addr) (cap B : Nat) (w : World) (hB : B ≤ w.heap.size) (hr : Rgs w B A l) (hn : l.length ≤ 1000000000) (hk : ¬ (okR (-1) l ∧ fineR r)) :
    Calls Tryd.prog 8 #[.slice A l.length cap, rgV r] w fun e w' => ∃ v, e = .returned v ∧ OwnR w' w.heap.size v l ∧ Below w.heap.size w w' := by
  have HBX := Lib.hid ((Below.refl w.heap.size w).alloc (Nat.le_refl _) (.cells #[.int .i64 r.1, .int .i64 r.2] 26))
  have hbox := Box.new w r
  have hsz : (w.alloc (.cells #[.int .i64 r.1, .int .i64 r.2] 26)).heap.size = w.heap.size + 1 := by simp
  have hr1 : Rgs (w.alloc (.cells #[.int .i64 r.1, .int .i64 r.2] 26)) B A l := hr.keep fun k hk => heap_alloc_old w _ (by omega)
  generalize hw1 : w.alloc (.cells #[.int .i64 r.1, .int .i64 r.2] 26) = w1 at *
  have HC := Lib.hid (iisr l A cap B w1 (by omega) hr1 hn)
  have HX := Lib.hid hbox
  have HR := Lib.hid hr1
  clear hr hr1 hbox
  by_cases h1 : okR (-1) l
  · have h2 : ¬ fineR r := fun h => hk ⟨h1, h⟩
    rw [decide_eq_true h1] at HC
    have h3 : ¬ okR (-1) [r] := fun h => h2 ((ok_one r).1 h)
    have HO : Hid (∀ W, Below w1.heap.size w1 W → Calls Tryd.prog 12 #[.slice (some ⟨W.heap.size, 0, none⟩) 1 1] (W.alloc (.cells #[.int .i64 r.1, .int .i64 r.2] 26)) fun e w' => e = .returned (.bool false) ∧ Below (W.heap.size + 1) (W.alloc (.cells #[.int .i64 r.1, .int .i64 r.2] 26)) w') := Lib.hid fun W hW => by
      have := iisr [r] (some ⟨W.heap.size, 0, none⟩) 1 (W.heap.size + 1) (W.alloc (.cells #[.int .i64 r.1, .int .i64 r.2] 26)) (by simp) (rgs_one W r _) (by simp)
      rw [decide_eq_false h3] at this
      simpa using this
    clear hk h1 h2 h3
    go_enter Tryd.func8, Tryd.ntmps8
    go_wp2_with fail
    refine HC.out.mono ?_
    rintro e w2 ⟨rfl, hb2⟩
    have HB2 := Lib.hid hb2
    obtain ⟨q1, q2⟩ := Box.cells (w := w2) (g := w.heap.size) (x := r) ((hb2.block _ (by omega)).trans HX.out)
    clear hb2
    go_wp2_with fail
    refine (HO.out w2 HB2.out).mono ?_
    rintro e w3 ⟨rfl, hb3⟩
    have HB3 := Lib.hid ((HB2.out.alloc HB2.out.size (.cells #[.int .i64 r.1, .int .i64 r.2] 26)).trans (hb3.mono (by have := HB2.out.size; omega)))
    have hw3 : w1.heap.size ≤ w3.heap.size := HB3.out.size
    clear hb3 q1 q2
    go_wp2_with fail
    refine (iclone l A cap B w3 (by omega) (HR.out.below (by omega) HB3.out) hn).mono ?_
    rintro e w4 ⟨v, rfl, ho4, hb4⟩
    have HO4 := Lib.hid ho4
    have HB4 := Lib.hid (HBX.out.trans ((HB3.out.mono (by omega)).trans (hb4.mono (by omega))))
    clear ho4 hb4
    go_wp2
    go_ret
    exact ⟨_, rfl, own_weaken HO4.out (by omega), HB4.out⟩
  · rw [decide_eq_false h1] at HC
    clear hk h1
    go_enter Tryd.func8, Tryd.ntmps8
    go_wp2_with fail
    refine HC.out.mono ?_
    rintro e w3 ⟨rfl, hb3⟩
    have HB3 := Lib.hid hb3
    have hw3 : w1.heap.size ≤ w3.heap.size := HB3.out.size
    clear hb3
    go_wp2_with fail
    refine (iclone l A cap B w3 (by omega) (HR.out.below (by omega) HB3.out) hn).mono ?_
    rintro e w4 ⟨v, rfl, ho4, hb4⟩
    have HO4 := Lib.hid ho4
    have HB4 := Lib.hid (HBX.out.trans ((HB3.out.mono (by omega)).trans (hb4.mono (by omega))))
    clear ho4 hb4
    go_wp2
    go_ret
    exact ⟨_, rfl, own_weaken HO4.out (by omega), HB4.out⟩

/-- Before a round of RemoveRange's loop. -/
structure RemSt (w : World) (base h g : Nat) (l : List Rg) (r : Rg) (wr : World) (L1 L2 : List (Nat × Rg)) (eb eo : Nat) : Prop where
  st : St wr base h L1 L2 eb eo
  box : Box wr g r
  eq : remR r l = L1.map (·.2) ++ remR r (L2.map (·.2))
  ok : ∃ q, okR q (L2.map (·.2))
  high : HighL L2 r.1
  below : Below g w wr
  size : base ≤ wr.heap.size
  len : L1.length + 2 * L2.length ≤ 2 * l.length
theorem RemSt.drewN {w : World} {base h g : Nat} {l : List Rg} {r : Rg} {wr : World} {L1 L2 : List (Nat × Rg)} {eb eo : Nat} (a : RemSt w base h g l r wr L1 L2 eb eo) (n : Nat) : RemSt w base h g l r (wr.drewN n) L1 L2 eb eo :=
  { st := a.st.drewN n, box := a.box, eq := a.eq, ok := a.ok, high := a.high, below := belowR_drewN a.below n, size := a.size, len := a.len }

set_option maxRecDepth 100000 in
set_option maxHeartbeats 4000000 in
/-- impl.RemoveRange, of a valid list and a valid range -/
theorem irem_yes (l : List Rg) (r : Rg) (A : Option Addr) (cap B : Nat) (w : World) (hB : B ≤ w.heap.size) (hr : Rgs w B A l) (hn : l.length ≤ 2000000) (hk : okR (-1) l) (hf : fineR r) :
    Calls Tryd.prog 8 #[.slice A l.length cap, rgV r] w fun e w' => ∃ v, e = .returned v ∧ OwnR w' w.heap.size v (remR r l) ∧ Below w.heap.size w w' := by
  have HBX := Lib.hid ((Below.refl w.heap.size w).alloc (Nat.le_refl _) (.cells #[.int .i64 r.1, .int .i64 r.2] 26))
  have hbox := Box.new w r
  have hsz : (w.alloc (.cells #[.int .i64 r.1, .int .i64 r.2] 26)).heap.size = w.heap.size + 1 := by simp
  have hr1 : Rgs (w.alloc (.cells #[.int .i64 r.1, .int .i64 r.2] 26)) B A l := hr.keep fun k hk => heap_alloc_old w _ (by omega)
  generalize hw1 : w.alloc (.cells #[.int .i64 r.1, .int .i64 r.2] 26) = w1 at *
  have HC := Lib.hid (iisr l A cap B w1 (by omega) hr1 (by omega))
  rw [decide_eq_true hk] at HC
  have HX := Lib.hid hbox
  have HR := Lib.hid hr1
  have HO : Hid (∀ W, Below w1.heap.size w1 W → Calls Tryd.prog 12 #[.slice (some ⟨W.heap.size, 0, none⟩) 1 1] (W.alloc (.cells #[.int .i64 r.1, .int .i64 r.2] 26)) fun e w' => e = .returned (.bool true) ∧ Below (W.heap.size + 1) (W.alloc (.cells #[.int .i64 r.1, .int .i64 r.2] 26)) w') := Lib.hid fun W hW => by
    have := iisr [r] (some ⟨W.heap.size, 0, none⟩) 1 (W.heap.size + 1) (W.alloc (.cells #[.int .i64 r.1, .int .i64 r.2] 26)) (by simp) (rgs_one W r _) (by simp)
    rw [decide_eq_true ((ok_one r).2 hf)] at this
    simpa using this
  have HK := Lib.hid hk
  have HF := Lib.hid hf
  clear hr hr1 hbox hk hf
  go_enter Tryd.func8, Tryd.ntmps8
  go_wp2_with fail
  refine HC.out.mono ?_
  rintro e w2 ⟨rfl, hb2⟩
  have HB2 := Lib.hid hb2
  obtain ⟨q1, q2⟩ := Box.cells (w := w2) (g := w.heap.size) (x := r) ((hb2.block _ (by omega)).trans HX.out)
  clear hb2
  go_wp2_with fail
  refine (HO.out w2 HB2.out).mono ?_
  rintro e w3 ⟨rfl, hb3⟩
  have HB3 := Lib.hid ((HB2.out.alloc HB2.out.size (.cells #[.int .i64 r.1, .int .i64 r.2] 26)).trans (hb3.mono (by have := HB2.out.size; omega)))
  have hw3 : w1.heap.size ≤ w3.heap.size := HB3.out.size
  clear hb3 q1 q2
  go_wp2_with fail
  refine (ilinks l A cap B w3 (by omega) (HR.out.below (by omega) HB3.out) (by omega)).mono ?_
  rintro e w4 ⟨p, L, rfl, hl4, hm4, hnd4, hk4, hb4⟩
  have HB4 := Lib.hid (HB3.out.trans (hb4.mono hw3))
  have hw4 : w1.heap.size ≤ w4.heap.size := HB4.out.size
  have HS := Lib.hid (St.start (t := 49) hl4 hnd4 (base := w1.heap.size) (fun b hb => ⟨by have := (hk4 b hb).1; omega, (hk4 b hb).2⟩) hw4)
  have HB5 := Lib.hid (HB4.out.alloc hw4 (.cells #[.pointer p] 49))
  have HM := Lib.hid hm4
  obtain ⟨q1, q2⟩ := Box.cells (w := w4.alloc (.cells #[.pointer p] 49)) (g := w.heap.size) (x := r) ((HB5.out.block _ (by omega)).trans HX.out)
  clear hl4 hm4 hnd4 hk4 hb4
  go_wp2_with fail
  refine (ireach HS.out r.1).mono ?_
  rintro e w5 ⟨L1, L2, eb, eo, rfl, hL, hs5, hlow, hhigh, hw5⟩
  replace hw5 := hw5.symm
  subst hw5
  have HA : Hid (RemSt w w1.heap.size w4.heap.size w.heap.size l r _ L1 L2 eb eo) := Lib.hid
    { st := hs5, box := (HB5.out.block _ (by omega)).trans HX.out,
      eq := by
        have hk := HK.out
        rw [← HM.out, hL, List.map_append] at hk
        rw [← HM.out, hL, List.map_append, remR_append, remR_low r HF.out.2.1 _ (-1) hk.prefix hlow.all],
      ok := by have := HK.out; rw [← HM.out, hL, List.map_append] at this; exact this.suffix,
      high := hhigh, below := HBX.out.trans (HB5.out.mono (by omega)), size := HB5.out.size,
      len := by have := congrArg List.length HM.out; rw [hL] at this; simp at this; omega }
  have HFR := Lib.hid HF.out.2.1
  clear hL hs5 hlow hhigh q1 q2 HS HM HB5 HB4 HB3 HB2 HC HR HO HK HF
  go_wp2
  go_loopw [6] (fun v wr => ∃ L1 L2 eb eo, v = .pointer (some ⟨eb, eo, none⟩) ∧ RemSt w w1.heap.size w4.heap.size w.heap.size l r wr L1 L2 eb eo) (fun v wr => lenLink wr l.length v)
  case atStart => exact ⟨L1, L2, eb, eo, rfl, HA.out⟩
  case round =>
    clear HA
    obtain ⟨L1, L2, eb, eo, rfl, ha⟩ := hrel
    have HA := Lib.hid ha
    clear ha
    obtain ⟨q1, q2⟩ := HA.out.box.cells
    cases L2 with
    | nil =>
      obtain ⟨p, c1, c2⟩ := HA.out.st.rest
      cases c2
      have HE : Hid (remR r (([] : List (Nat × Rg)).map (·.2)) = ([] : List (Nat × Rg)).map (·.2)) := Lib.hid rfl
      go_wp2
      go_quiet (fail)
      have HQ := Lib.hid (HA.out.drewN nq)
      clear HA c1 q1 q2
      generalize wr.drewN nq = wq at *
      obtain ⟨p6, c6, c7⟩ := HQ.out.st.rest
      obtain ⟨q6, d6, l6⟩ := HQ.out.st.seg.all c6 c7
      have HL6 := Lib.hid l6
      have hn6 : (L1 ++ ([] : List (Nat × Rg))).length ≤ 1000000000 := by
        have h2 := HQ.out.len
        rw [List.length_append]
        omega
      clear c6 c7 l6
      go_wp2_with fail
      refine (ilist HL6.out (fun b hb => (HQ.out.st.old b (List.mem_cons_of_mem _ hb)).2) hn6).mono ?_
      rintro e w7 ⟨v, rfl, ho7, hb7⟩
      have HO7 := Lib.hid ho7
      have HB7 := Lib.hid (HQ.out.below.trans (hb7.mono HQ.out.below.size))
      have hw6 : w.heap.size ≤ wq.heap.size := HQ.out.below.size
      have HE7 : Hid (remR r l = (L1 ++ ([] : List (Nat × Rg))).map (·.2)) := Lib.hid (by rw [List.map_append, HQ.out.eq, HE.out])
      clear ho7 hb7
      go_wp2
      go_ret
      exact ⟨_, rfl, by rw [HE7.out]; exact own_weaken HO7.out hw6, HB7.out⟩
    | cons y L2 =>
      obtain ⟨b, x⟩ := y
      obtain ⟨c1, c2, c3, _⟩ := HA.out.st.cut
      obtain ⟨q, hq⟩ := HA.out.ok
      have hhi : r.1 ≤ x.2 := HA.out.high
      by_cases hx : x.1 < r.2
      · have hd : decide (x.1 < r.2) = true := decide_eq_true hx
        have HQ2 : Hid (okR x.2 (L2.map (·.2))) := Lib.hid hq.2.2.2
        have HE : Hid (remR r (((b, x) :: L2).map (·.2)) = (if x.1 < r.1 then [(x.1, r.1)] else []) ++ (if r.2 < x.2 then [(r.2, x.2)] else []) ++ remR r (L2.map (·.2))) := Lib.hid (by
          show cutR r x ++ remR r (L2.map (·.2)) = _
          congr 1
          unfold cutR
          rw [show min x.2 r.1 = r.1 from by omega, show max x.1 r.2 = r.2 from by omega])
        have HH2 : Hid (HighL L2 r.1) := Lib.hid (by
          cases L2 with
          | nil => trivial
          | cons z L2 =>
            have h1 := HQ2.out
            show r.1 ≤ z.2.2
            have h2 : x.2 < z.2.1 := h1.1
            have h3 : z.2.1 < z.2.2 := h1.2.1
            omega)
        clear hx hq hhi
        go_wp2
        go_quiet (fail)
        have HQ := Lib.hid (HA.out.drewN nq)
        have hlw : lenLink wr l.length (.pointer (some ⟨eb, eo, none⟩)) = L2.length + 1 := HA.out.st.len (by have := HA.out.len; simp at this ⊢; omega)
        clear HA c1 q1 q2 c2 c3
        generalize wr.drewN nq = wq at *
        go_wp2_with fail
        refine (icut HQ.out.st HQ.out.size).mono ?_
        rintro e w6 ⟨rfl, hs6, hb6⟩
        have hw6 : w1.heap.size ≤ w6.heap.size := Nat.le_trans HQ.out.size hb6.size
        have HX6 : Hid (Box (w6.alloc (.cells #[.int .i64 x.1, .int .i64 x.2] 26)) w.heap.size r) := Lib.hid ((heap_alloc_old w6 _ (by omega)).trans ((hb6.block _ (by omega)).trans HQ.out.box))
        have HN6 : Hid (eb < w6.heap.size) := Lib.hid (hs6.old eb hs6.emem).2
        have HY6 : Hid (Box (w6.alloc (.cells #[.int .i64 x.1, .int .i64 x.2] 26)) w6.heap.size x) := Lib.hid (Box.new w6 x)
        have HB6 := Lib.hid ((HQ.out.below.trans (hb6.mono (by omega))).alloc (by omega) (.cells #[.int .i64 x.1, .int .i64 x.2] 26))
        have HS6 := Lib.hid (hs6.below ((Below.refl _ w6).alloc (Nat.le_refl _) (.cells #[.int .i64 x.1, .int .i64 x.2] 26)))
        obtain ⟨q1, q2⟩ := HX6.out.cells
        obtain ⟨r1, r2⟩ := HY6.out.cells
        have hw7 : w1.heap.size ≤ (w6.alloc (.cells #[.int .i64 x.1, .int .i64 x.2] 26)).heap.size := by simp; omega
        clear hs6 hb6
        go_wp2_with fail
        refine (iput HS6.out (x.1, r.1) hw7).mono ?_
        rintro e w8 ⟨eb8, eo8, L8, rfl, hm8, hs8, hb8, hk8⟩
        have hne : w6.heap.size ≠ eb := by have := (HS6.out.old eb HS6.out.emem).2; have := HN6.out; omega
        have HM8 := Lib.hid hm8
        have HS8 := Lib.hid hs8
        have HX8 : Hid (Box w8 w.heap.size r) := Lib.hid ((hb8.block _ (by omega)).trans HX6.out)
        have HY8 : Hid (Box w8 w6.heap.size x) := Lib.hid ((hk8 _ (by simp) hne).trans HY6.out)
        have HB8 := Lib.hid (HB6.out.trans (hb8.mono (by omega)))
        have hw8 : w1.heap.size ≤ w8.heap.size := Nat.le_trans hw7 hb8.size
        clear hm8 hs8 hb8 hk8 q1 q2 r1 r2
        obtain ⟨q1, q2⟩ := HX8.out.cells
        obtain ⟨r1, r2⟩ := HY8.out.cells
        go_wp2_with fail
        refine (iput HS8.out (r.2, x.2) hw8).mono ?_
        rintro e w9 ⟨eb9, eo9, L9, rfl, hm9, hs9, hb9, _⟩
        have HM9 := Lib.hid hm9
        have HS9 := Lib.hid hs9
        have HX9 : Hid (Box w9 w.heap.size r) := Lib.hid ((hb9.block _ (by omega)).trans HX8.out)
        have HB9 := Lib.hid (HB8.out.trans (hb9.mono (by omega)))
        have hw9 : w1.heap.size ≤ w9.heap.size := Nat.le_trans hw8 hb9.size
        clear hm9 hs9 hb9 q1 q2 r1 r2
        have HL9 : Hid (L9.length ≤ L1.length + 2) := Lib.hid (by
          have e : L9.length = (L9.map (·.2)).length := by simp
          rw [e, HM9.out, List.length_append, HM8.out, List.length_append, List.length_map]
          split <;> split <;> simp <;> omega)
        go_wp2
        go_roundw
        case rel =>
          exact ⟨L9, L2, eb9, eo9, rfl, { st := HS9.out, box := HX9.out, eq := by rw [HQ.out.eq, HE.out, HM9.out, HM8.out]; simp only [List.append_assoc], ok := ⟨_, HQ2.out⟩, high := HH2.out, below := HB9.out, size := hw9, len := by have := HQ.out.len; have := HL9.out; simp at *; omega }⟩
        case measure =>
          rw [HS9.out.len (by have := HQ.out.len; simp at this; omega), hlw]
          omega
      · have hd : decide (x.1 < r.2) = false := decide_eq_false hx
        have HE : Hid (remR r (((b, x) :: L2).map (·.2)) = ((b, x) :: L2).map (·.2)) := Lib.hid (remR_from r HFR.out _ (x.1 - 1) ⟨by show x.1 - 1 < x.1; omega, hq.2⟩ (by omega))
        clear hx hq hhi
        go_wp2
        go_quiet (fail)
        have HQ := Lib.hid (HA.out.drewN nq)
        clear HA c1 q1 q2 c2 c3
        generalize wr.drewN nq = wq at *
        obtain ⟨p6, c6, c7⟩ := HQ.out.st.rest
        obtain ⟨q6, d6, l6⟩ := HQ.out.st.seg.all c6 c7
        have HL6 := Lib.hid l6
        have hn6 : (L1 ++ ((b, x) :: L2)).length ≤ 1000000000 := by
          have h2 := HQ.out.len
          rw [List.length_append]
          omega
        clear c6 c7 l6
        go_wp2_with fail
        refine (ilist HL6.out (fun b hb => (HQ.out.st.old b (List.mem_cons_of_mem _ hb)).2) hn6).mono ?_
        rintro e w7 ⟨v, rfl, ho7, hb7⟩
        have HO7 := Lib.hid ho7
        have HB7 := Lib.hid (HQ.out.below.trans (hb7.mono HQ.out.below.size))
        have hw6 : w.heap.size ≤ wq.heap.size := HQ.out.below.size
        have HE7 : Hid (remR r l = (L1 ++ ((b, x) :: L2)).map (·.2)) := Lib.hid (by rw [List.map_append, HQ.out.eq, HE.out])
        clear ho7 hb7
        go_wp2
        go_ret
        exact ⟨_, rfl, by rw [HE7.out]; exact own_weaken HO7.out hw6, HB7.out⟩
end Go.Proofs.YtjgabiklmloogaaDoor
