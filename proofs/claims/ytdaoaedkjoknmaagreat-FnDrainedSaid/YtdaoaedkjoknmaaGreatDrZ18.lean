/-
  Contracts and lemmas for the law on draining.
-/
import Derived.Test.YtdaoaedkjoknmaaGreatDrZ0
import Derived.Test.YtdaoaedkjoknmaaGreatDrZ14
import Derived.Test.YtdaoaedkjoknmaaGreatDrZ6
set_option maxRecDepth 1000000
set_option maxHeartbeats 8000000
namespace Go.Proofs.YtdaoaedkjoknmaaGreat
open Go.RowKit Go.Deep Go.Proofs.YtdaoaedkjoknmaaGreat.Num

namespace Num
theorem ok_one (r : Rg) : okR (-1) [r] ↔ fineR r := by
  show (-1 < r.1 ∧ r.1 < r.2 ∧ r.2 ≤ 4611686018427387903 ∧ True) ↔ 0 ≤ r.1 ∧ r.1 < r.2 ∧ r.2 ≤ 4611686018427387903
  constructor
  · rintro ⟨h1, h2, h3, _⟩; exact ⟨by omega, h2, h3⟩
  · rintro ⟨h1, h2, h3⟩; exact ⟨by omega, h2, h3, trivial⟩
theorem addR_low (r : Rg) (a b : List Rg) (h : ∀ y ∈ a, y.2 < r.1) : addR r (a ++ b) = a ++ addR r b := by
  induction a with
  | nil => rfl
  | cons x a ih =>
    rw [List.cons_append, addR_cons, if_pos (h x List.mem_cons_self), ih fun y hy => h y (List.mem_cons_of_mem _ hy)]
    rfl
theorem okR.suffix {a b : List Rg} : ∀ {p : Int}, okR p (a ++ b) → ∃ q, okR q b := by
  induction a with
  | nil => intro p h; exact ⟨p, h⟩
  | cons x a ih => intro p h; exact ih h.2.2.2
end Num
theorem LowL.all {L : List (Nat × Rg)} {n : Int} (h : LowL L n) : ∀ y ∈ L.map (·.2), y.2 < n := by
  intro y hy
  obtain ⟨z, hz, rfl⟩ := List.mem_map.1 hy
  exact h z hz
theorem St.start {w : World} {p : Option Addr} {L : List (Nat × Rg)} {base : Nat} {t : TypeId} (hl : Nodes w p L) (hnd : (L.map (·.1)).Nodup) (hk : ∀ b ∈ L.map (·.1), base ≤ b ∧ b < w.heap.size) (hb : base ≤ w.heap.size) :
    St (w.alloc (.cells #[.pointer p] t)) base w.heap.size [] L w.heap.size 0 := by
  have hc : (w.alloc (.cells #[.pointer p] t)).cell? ⟨w.heap.size, 0, none⟩ = some (.pointer p) := cell_of_row _ _ 0 _ _ _ (heap_alloc_new w _)
  refine ⟨rfl, ⟨p, hc, hl.list.same fun b hb k => World.cell?_of_block (Below.heap_alloc w _ b (hk b hb).2)⟩, ?_, fun b hm => ?_, fun b hm k => ?_⟩
  · refine List.nodup_cons.2 ⟨fun hm => ?_, hnd⟩
    have := (hk _ (by simpa using hm)).2
    omega
  · rcases List.mem_cons.1 (by simpa [blk] using hm : b ∈ w.heap.size :: L.map (·.1)) with rfl | hm
    · exact ⟨hb, by simp⟩
    · have := hk b hm
      exact ⟨this.1, by simp; omega⟩
  · rcases List.mem_cons.1 (by simpa [blk] using hm : b ∈ w.heap.size :: L.map (·.1)) with rfl | hm
    · exact frozen_cells (heap_alloc_new w _) k
    · exact (World.frozen?_of_block (Below.heap_alloc w _ b (hk b hm).2)).trans (hl.free b hm k)

theorem iadd_no (l : List Rg) (r : Rg) (A : Option Addr) (cap B : Nat) (w : World) (hB : B ≤ w.heap.size) (hr : Rgs w B A l) (hn : l.length ≤ 1000000000) (hk : ¬ (okR (-1) l ∧ fineR r)) :
    Calls Tryz.prog 31 #[.slice A l.length cap, rgV r] w fun e w' => ∃ v, e = .returned v ∧ OwnR w' w.heap.size v l ∧ Below w.heap.size w w' := by
  have HBX := LH ((Below.refl w.heap.size w).alloc (Nat.le_refl _) (.cells #[.int .i64 r.1, .int .i64 r.2] 59))
  have hbox := Box.new w r
  have hsz : (w.alloc (.cells #[.int .i64 r.1, .int .i64 r.2] 59)).heap.size = w.heap.size + 1 := by simp
  have hr1 : Rgs (w.alloc (.cells #[.int .i64 r.1, .int .i64 r.2] 59)) B A l := hr.keep fun k hk => heap_alloc_old w _ (by omega)
  generalize hw1 : w.alloc (.cells #[.int .i64 r.1, .int .i64 r.2] 59) = w1 at *
  have HC := LH (iisr l A cap B w1 (by omega) hr1 hn)
  have HX := LH hbox
  have HR := LH hr1
  clear hr hr1 hbox
  by_cases h1 : okR (-1) l
  · have h2 : ¬ fineR r := fun h => hk ⟨h1, h⟩
    rw [decide_eq_true h1] at HC
    have h3 : ¬ okR (-1) [r] := fun h => h2 ((ok_one r).1 h)
    have HO : Hid (∀ W, Below w1.heap.size w1 W → Calls Tryz.prog 86 #[.slice (some ⟨W.heap.size, 0, none⟩) 1 1] (W.alloc (.cells #[.int .i64 r.1, .int .i64 r.2] 59)) fun e w' => e = .returned (.bool false) ∧ Below (W.heap.size + 1) (W.alloc (.cells #[.int .i64 r.1, .int .i64 r.2] 59)) w') := LH fun W hW => by
      have := iisr [r] (some ⟨W.heap.size, 0, none⟩) 1 (W.heap.size + 1) (W.alloc (.cells #[.int .i64 r.1, .int .i64 r.2] 59)) (by simp) (rgs_one W r _) (by simp)
      rw [decide_eq_false h3] at this
      simpa using this
    clear hk h1 h2 h3
    go_enter Tryz.func31, Tryz.ntmps31
    go_wp2_with fail
    refine HC.out.mono ?_
    rintro e w2 ⟨rfl, hb2⟩
    have HB2 := LH hb2
    obtain ⟨q1, q2⟩ := Box.cells (w := w2) (g := w.heap.size) (x := r) ((hb2.block _ (by omega)).trans HX.out)
    clear hb2
    go_wp2_with fail
    refine (HO.out w2 HB2.out).mono ?_
    rintro e w3 ⟨rfl, hb3⟩
    have HB3 := LH ((HB2.out.alloc HB2.out.size (.cells #[.int .i64 r.1, .int .i64 r.2] 59)).trans (hb3.mono (by have := HB2.out.size; omega)))
    have hw3 : w1.heap.size ≤ w3.heap.size := HB3.out.size
    clear hb3 q1 q2
    go_wp2_with fail
    refine (iclone l A cap B w3 (by omega) (HR.out.below (by omega) HB3.out) hn).mono ?_
    rintro e w4 ⟨v, rfl, ho4, hb4⟩
    have HO4 := LH ho4
    have HB4 := LH (HBX.out.trans ((HB3.out.mono (by omega)).trans (hb4.mono (by omega))))
    clear ho4 hb4
    go_wp2
    go_ret
    exact ⟨_, rfl, own_weaken HO4.out (by omega), HB4.out⟩
  · rw [decide_eq_false h1] at HC
    clear hk h1
    go_enter Tryz.func31, Tryz.ntmps31
    go_wp2_with fail
    refine HC.out.mono ?_
    rintro e w3 ⟨rfl, hb3⟩
    have HB3 := LH hb3
    have hw3 : w1.heap.size ≤ w3.heap.size := HB3.out.size
    clear hb3
    go_wp2_with fail
    refine (iclone l A cap B w3 (by omega) (HR.out.below (by omega) HB3.out) hn).mono ?_
    rintro e w4 ⟨v, rfl, ho4, hb4⟩
    have HO4 := LH ho4
    have HB4 := LH (HBX.out.trans ((HB3.out.mono (by omega)).trans (hb4.mono (by omega))))
    clear ho4 hb4
    go_wp2
    go_ret
    exact ⟨_, rfl, own_weaken HO4.out (by omega), HB4.out⟩

theorem St.drewN {w : World} {base h eb eo : Nat} {L1 L2 : List (Nat × Rg)} (s : St w base h L1 L2 eb eo) (n : Nat) : St (w.drewN n) base h L1 L2 eb eo := s.keep (Nat.le_refl _) fun _ _ => rfl
structure AddSt (w : World) (base h g : Nat) (l : List Rg) (r : Rg) (wr : World) (L1 L2 : List (Nat × Rg)) (eb eo : Nat) (c : Rg) : Prop where
  st : St wr base h L1 L2 eb eo
  box : Box wr g c
  fine : c.1 < c.2
  eq : addR r l = L1.map (·.2) ++ addR c (L2.map (·.2))
  ok : ∃ q, okR q (L2.map (·.2))
  high : HighL L2 c.1
  below : Below g w wr
  size : base ≤ wr.heap.size
  len : L1.length + L2.length ≤ l.length

theorem AddSt.drewN {w : World} {base h g : Nat} {l : List Rg} {r : Rg} {wr : World} {L1 L2 : List (Nat × Rg)} {eb eo : Nat} {c : Rg} (a : AddSt w base h g l r wr L1 L2 eb eo c) (n : Nat) : AddSt w base h g l r (wr.drewN n) L1 L2 eb eo c :=
  { st := a.st.drewN n, box := a.box, fine := a.fine, eq := a.eq, ok := a.ok, high := a.high, below := belowR_drewN a.below n, size := a.size, len := a.len }

theorem iadd_yes (l : List Rg) (r : Rg) (A : Option Addr) (cap B : Nat) (w : World) (hB : B ≤ w.heap.size) (hr : Rgs w B A l) (hn : l.length ≤ 2000000) (hk : okR (-1) l) (hf : fineR r) :
    Calls Tryz.prog 31 #[.slice A l.length cap, rgV r] w fun e w' => ∃ v, e = .returned v ∧ OwnR w' w.heap.size v (addR r l) ∧ Below w.heap.size w w' := by
  have HBX := LH ((Below.refl w.heap.size w).alloc (Nat.le_refl _) (.cells #[.int .i64 r.1, .int .i64 r.2] 59))
  have hbox := Box.new w r
  have hsz : (w.alloc (.cells #[.int .i64 r.1, .int .i64 r.2] 59)).heap.size = w.heap.size + 1 := by simp
  have hr1 : Rgs (w.alloc (.cells #[.int .i64 r.1, .int .i64 r.2] 59)) B A l := hr.keep fun k hk => heap_alloc_old w _ (by omega)
  generalize hw1 : w.alloc (.cells #[.int .i64 r.1, .int .i64 r.2] 59) = w1 at *
  have HC := LH (iisr l A cap B w1 (by omega) hr1 (by omega))
  rw [decide_eq_true hk] at HC
  have HX := LH hbox
  have HR := LH hr1
  have HO : Hid (∀ W, Below w1.heap.size w1 W → Calls Tryz.prog 86 #[.slice (some ⟨W.heap.size, 0, none⟩) 1 1] (W.alloc (.cells #[.int .i64 r.1, .int .i64 r.2] 59)) fun e w' => e = .returned (.bool true) ∧ Below (W.heap.size + 1) (W.alloc (.cells #[.int .i64 r.1, .int .i64 r.2] 59)) w') := LH fun W hW => by
    have := iisr [r] (some ⟨W.heap.size, 0, none⟩) 1 (W.heap.size + 1) (W.alloc (.cells #[.int .i64 r.1, .int .i64 r.2] 59)) (by simp) (rgs_one W r _) (by simp)
    rw [decide_eq_true ((ok_one r).2 hf)] at this
    simpa using this
  have HK := LH hk
  have HF := LH hf
  clear hr hr1 hbox hk hf
  go_enter Tryz.func31, Tryz.ntmps31
  go_wp2_with fail
  refine HC.out.mono ?_
  rintro e w2 ⟨rfl, hb2⟩
  have HB2 := LH hb2
  obtain ⟨q1, q2⟩ := Box.cells (w := w2) (g := w.heap.size) (x := r) ((hb2.block _ (by omega)).trans HX.out)
  clear hb2
  go_wp2_with fail
  refine (HO.out w2 HB2.out).mono ?_
  rintro e w3 ⟨rfl, hb3⟩
  have HB3 := LH ((HB2.out.alloc HB2.out.size (.cells #[.int .i64 r.1, .int .i64 r.2] 59)).trans (hb3.mono (by have := HB2.out.size; omega)))
  have hw3 : w1.heap.size ≤ w3.heap.size := HB3.out.size
  clear hb3 q1 q2
  go_wp2_with fail
  refine (ilinks l A cap B w3 (by omega) (HR.out.below (by omega) HB3.out) (by omega)).mono ?_
  rintro e w4 ⟨p, L, rfl, hl4, hm4, hnd4, hk4, hb4⟩
  have HB4 := LH (HB3.out.trans (hb4.mono hw3))
  have hw4 : w1.heap.size ≤ w4.heap.size := HB4.out.size
  have HS := LH (St.start (t := 115) hl4 hnd4 (base := w1.heap.size) (fun b hb => ⟨by have := (hk4 b hb).1; omega, (hk4 b hb).2⟩) hw4)
  have HB5 := LH (HB4.out.alloc hw4 (.cells #[.pointer p] 115))
  have HM := LH hm4
  obtain ⟨q1, q2⟩ := Box.cells (w := w4.alloc (.cells #[.pointer p] 115)) (g := w.heap.size) (x := r) ((HB5.out.block _ (by omega)).trans HX.out)
  clear hl4 hm4 hnd4 hk4 hb4
  go_wp2_with fail
  refine (ireach HS.out r.1).mono ?_
  rintro e w5 ⟨L1, L2, eb, eo, rfl, hL, hs5, hlow, hhigh, hw5⟩
  replace hw5 := hw5.symm
  subst hw5
  have HA : Hid (AddSt w w1.heap.size w4.heap.size w.heap.size l r _ L1 L2 eb eo r) := LH
    { st := hs5, box := (HB5.out.block _ (by omega)).trans HX.out, fine := HF.out.2.1, eq := by rw [← HM.out, hL, List.map_append, addR_low r _ _ hlow.all],
      ok := by have := HK.out; rw [← HM.out, hL, List.map_append] at this; exact this.suffix,
      high := hhigh, below := HBX.out.trans (HB5.out.mono (by omega)), size := HB5.out.size,
      len := by have := congrArg List.length HM.out; rw [hL] at this; simpa using Nat.le_of_eq this }
  clear hL hs5 hlow hhigh q1 q2 HS HM HB5 HB4 HB3 HB2 HC HR HO HK HF
  go_wp2
  go_loopw [] (fun wr => ∃ L2 c, AddSt w w1.heap.size w4.heap.size w.heap.size l r wr L1 L2 eb eo c) (fun wr => lenLink wr l.length (.pointer (some ⟨eb, eo, none⟩)))
  case atStart => exact ⟨L2, r, HA.out⟩
  case round =>
    clear HA
    obtain ⟨L2, c, ha⟩ := hrel
    have HA := LH ha
    clear ha
    obtain ⟨q1, q2⟩ := HA.out.box.cells
    cases L2 with
    | nil =>
      obtain ⟨p, c1, c2⟩ := HA.out.st.rest
      cases c2
      have HE : Hid (addR c (([] : List (Nat × Rg)).map (·.2)) = c :: ([] : List (Nat × Rg)).map (·.2)) := LH rfl
      go_wp2
      go_quiet (fail)
      have HQ := LH (HA.out.drewN nq)
      clear HA c1 q1 q2
      generalize wr.drewN nq = wq at *
      obtain ⟨q1, q2⟩ := HQ.out.box.cells
      go_wp2_with fail
      refine (iput HQ.out.st c HQ.out.size).mono ?_
      rintro e w6 ⟨eb', eo', L1', rfl, hm6, hs6, hb6, _⟩
      have HM6 := LH hm6
      have HS6 := LH hs6
      obtain ⟨p6, c6, c7⟩ := hs6.rest
      obtain ⟨q6, d6, l6⟩ := hs6.seg.all c6 c7
      have HL6 := LH l6
      have HB6 := LH (HQ.out.below.trans (hb6.mono (by omega)))
      have hn6 : (L1' ++ ([] : List (Nat × Rg))).length ≤ 1000000000 := by
        have h1 := congrArg List.length hm6
        have h2 := HQ.out.len
        rw [if_pos HQ.out.fine, List.length_append, List.length_map, List.length_map, List.length_singleton] at h1
        rw [List.length_append]
        omega
      clear hm6 hs6 c6 c7 l6 hb6 q1 q2
      go_wp2_with fail
      refine (ilist HL6.out (fun b hb => (HS6.out.old b (List.mem_cons_of_mem _ hb)).2) hn6).mono ?_
      rintro e w7 ⟨v, rfl, ho7, hb7⟩
      have HO7 := LH ho7
      have HB7 := LH (HB6.out.trans (hb7.mono HB6.out.size))
      have hw6 : w.heap.size ≤ w6.heap.size := HB6.out.size
      have HE7 : Hid (addR r l = (L1' ++ ([] : List (Nat × Rg))).map (·.2)) := LH (by rw [List.map_append, HM6.out, if_pos HQ.out.fine, HQ.out.eq, HE.out]; simp)
      clear ho7 hb7
      go_wp2
      go_ret
      exact ⟨_, rfl, by rw [HE7.out]; exact own_weaken HO7.out hw6, HB7.out⟩
    | cons y L2 =>
      obtain ⟨b, x⟩ := y
      obtain ⟨c1, c2, c3, _⟩ := HA.out.st.cut
      by_cases hx : x.1 ≤ c.2
      · have hd : decide (x.1 ≤ c.2) = true := decide_eq_true hx
        obtain ⟨m, hmin⟩ : ∃ m : Int, (if x.1 < c.1 then x.1 else c.1) = m := ⟨_, rfl⟩
        obtain ⟨M, hmax⟩ : ∃ M : Int, (if c.2 < x.2 then x.2 else c.2) = M := ⟨_, rfl⟩
        have e1 : min c.1 x.1 = m := by rw [← hmin]; split <;> omega
        have e2 : max c.2 x.2 = M := by rw [← hmax]; split <;> omega
        obtain ⟨q, hq⟩ := HA.out.ok
        have HQ2 : Hid (okR x.2 (L2.map (·.2)) ∧ x.1 < x.2) := LH ⟨hq.2.2.2, hq.2.1⟩
        have hhi : c.1 ≤ x.2 := HA.out.high
        have HE : Hid (addR c (((b, x) :: L2).map (·.2)) = addR (m, M) (L2.map (·.2))) := LH (by
          rw [List.map_cons, addR_cons, if_neg (by show ¬ x.2 < c.1; omega), if_neg (by show ¬ c.2 < x.1; omega), e1, e2])
        have HF2 : Hid (m < M) := LH (by have := HQ2.out.2; omega)
        have HH2 : Hid (HighL L2 m) := LH (by
          cases L2 with
          | nil => trivial
          | cons z L2 =>
            have h1 := HQ2.out.1
            show m ≤ z.2.2
            have h2 : x.2 < z.2.1 := h1.1
            have h3 : z.2.1 < z.2.2 := h1.2.1
            omega)
        clear hx e1 e2 hq hhi
        go_wp2
        go_quiet (fail)
        have HQ := LH (HA.out.drewN nq)
        have hlw : lenLink wr l.length (.pointer (some ⟨eb, eo, none⟩)) = L2.length + 1 := HA.out.st.len (by have := HA.out.len; simp at this ⊢; omega)
        clear HA c1 q1 q2 c2 c3
        generalize wr.drewN nq = wq at *
        go_wp2_with fail
        refine (icut HQ.out.st HQ.out.size).mono ?_
        rintro e w6 ⟨rfl, hs6, hb6⟩
        have HX6 : Hid (Box (w6.alloc (.cells #[.int .i64 x.1, .int .i64 x.2] 59)) w.heap.size c) := LH ((heap_alloc_old w6 _ (by have := HQ.out.size; have := hb6.size; omega)).trans ((hb6.block _ (by omega)).trans HQ.out.box))
        have HB6 := LH (HQ.out.below.trans (hb6.mono (by omega)))
        have HS6 := LH (hs6.below ((Below.refl _ w6).alloc (Nat.le_refl _) (.cells #[.int .i64 x.1, .int .i64 x.2] 59)))
        have hw6 : w1.heap.size ≤ w6.heap.size := Nat.le_trans HQ.out.size hb6.size
        obtain ⟨q1, q2⟩ := HX6.out.cells
        have f0 := HX6.out.free
        clear hs6 hb6
        go_wp2
        go_roundw
        case rel =>
          refine ⟨L2, (m, M), ?_⟩
          have hg : w.heap.size ∉ blk w4.heap.size (L1 ++ L2) := fun hm => by have := (HS6.out.old _ hm).1; omega
          exact { st := (HS6.out.other _ 0 _ hg).other _ 1 _ hg, box := Box.set1 (Box.set0 HX6.out m) M, fine := HF2.out, eq := by rw [HQ.out.eq, HE.out], ok := ⟨_, HQ2.out.1⟩, high := HH2.out,
                  below := ((HB6.out.alloc HB6.out.size _).setCell (p := ⟨_, _, _⟩) (Nat.le_refl _) _).setCell (p := ⟨_, _, _⟩) (Nat.le_refl _) _, size := by simp [World.setCell]; omega, len := by have := HQ.out.len; simp at this; omega }
        case measure =>
          have hg : w.heap.size ∉ blk w4.heap.size (L1 ++ L2) := fun hm => by have := (HS6.out.old _ hm).1; omega
          rw [((HS6.out.other _ 0 _ hg).other _ 1 _ hg).len (by have := HQ.out.len; simp at this; omega), hlw]
          omega
      · have hd : decide (x.1 ≤ c.2) = false := decide_eq_false hx
        have hhi : c.1 ≤ x.2 := HA.out.high
        have HE : Hid (addR c (((b, x) :: L2).map (·.2)) = c :: ((b, x) :: L2).map (·.2)) := LH (by
          rw [List.map_cons, addR_cons, if_neg (by show ¬ x.2 < c.1; omega), if_pos (by show c.2 < x.1; omega)])
        clear hx hhi
        go_wp2
        go_quiet (fail)
        have HQ := LH (HA.out.drewN nq)
        clear HA c1 q1 q2 c2 c3
        generalize wr.drewN nq = wq at *
        obtain ⟨q1, q2⟩ := HQ.out.box.cells
        go_wp2_with fail
        refine (iput HQ.out.st c HQ.out.size).mono ?_
        rintro e w6 ⟨eb', eo', L1', rfl, hm6, hs6, hb6, _⟩
        have HM6 := LH hm6
        have HS6 := LH hs6
        obtain ⟨p6, c6, c7⟩ := hs6.rest
        obtain ⟨q6, d6, l6⟩ := hs6.seg.all c6 c7
        have HL6 := LH l6
        have HB6 := LH (HQ.out.below.trans (hb6.mono (by omega)))
        have hn6 : (L1' ++ ((b, x) :: L2)).length ≤ 1000000000 := by
          have h1 := congrArg List.length hm6
          have h2 := HQ.out.len
          rw [if_pos HQ.out.fine, List.length_append, List.length_map, List.length_map, List.length_singleton] at h1
          rw [List.length_append]
          omega
        clear hm6 hs6 c6 c7 l6 hb6 q1 q2
        go_wp2_with fail
        refine (ilist HL6.out (fun b hb => (HS6.out.old b (List.mem_cons_of_mem _ hb)).2) hn6).mono ?_
        rintro e w7 ⟨v, rfl, ho7, hb7⟩
        have HO7 := LH ho7
        have HB7 := LH (HB6.out.trans (hb7.mono HB6.out.size))
        have hw6 : w.heap.size ≤ w6.heap.size := HB6.out.size
        have HE7 : Hid (addR r l = (L1' ++ ((b, x) :: L2)).map (·.2)) := LH (by rw [List.map_append, HM6.out, if_pos HQ.out.fine, HQ.out.eq, HE.out]; simp)
        clear ho7 hb7
        go_wp2
        go_ret
        exact ⟨_, rfl, by rw [HE7.out]; exact own_weaken HO7.out hw6, HB7.out⟩
end Go.Proofs.YtdaoaedkjoknmaaGreat
