/-
  Contracts and lemmas for the law on draining.
-/
import Derived.Test.YtdaoaedkjoknmaaGreatDrZ0
import Derived.Test.YtdaoaedkjoknmaaGreatDrZ15
import Derived.Test.YtdaoaedkjoknmaaGreatDrZ6
import Derived.Test.YtdaoaedkjoknmaaGreatDrZ14
set_option maxRecDepth 1000000
set_option maxHeartbeats 8000000
namespace Go.Proofs.YtdaoaedkjoknmaaGreat
open Go.RowKit Go.Deep Go.Proofs.YtdaoaedkjoknmaaGreat.Num

namespace Num
theorem both_above (x : Rg) (b : List Rg) (q : Int) (h : okR q b) (hx : x.2 ≤ q) : b.flatMap (bothR x) = [] := by
  rw [List.flatMap_eq_nil_iff]
  intro y hy
  have := h.below y hy
  unfold bothR
  rw [if_neg (by omega)]
theorem com_first (x y : Rg) (a b : List Rg) (p q : Int) (_ha : okR p (x :: a)) (hb : okR q (y :: b)) (h : x.2 < y.2) : comR (x :: a) (y :: b) = bothR x y ++ comR a (y :: b) := by
  have e : comR (x :: a) (y :: b) = (bothR x y ++ b.flatMap (bothR x)) ++ comR a (y :: b) := rfl
  rw [e, both_above x b y.2 hb.2.2.2 (by omega), List.append_nil]
theorem com_second (x y : Rg) (a b : List Rg) (p q : Int) (ha : okR p (x :: a)) (_hb : okR q (y :: b)) (h : ¬ x.2 < y.2) : comR (x :: a) (y :: b) = bothR x y ++ comR (x :: a) b := by
  have e : comR (x :: a) (y :: b) = (bothR x y ++ b.flatMap (bothR x)) ++ comR a (y :: b) := rfl
  have e2 : comR (x :: a) b = b.flatMap (bothR x) ++ comR a b := rfl
  have e3 : ∀ c : List Rg, okR x.2 c → comR c (y :: b) = comR c b := by
    intro c
    induction c with
    | nil => intro _; rfl
    | cons z c ih =>
      intro hc
      have e4 : comR (z :: c) (y :: b) = (bothR z y ++ b.flatMap (bothR z)) ++ comR c (y :: b) := rfl
      have e5 : comR (z :: c) b = b.flatMap (bothR z) ++ comR c b := rfl
      have h1 : bothR z y = [] := by
        unfold bothR
        have := hc.1
        rw [if_neg (by omega)]
      rw [e4, e5, h1, List.nil_append, ih (hc.2.2.2.weaker (by have := hc.1; have := hc.2.1; omega))]
  rw [e, e2, e3 a ha.2.2.2, List.append_assoc]
theorem com_none (a : List Rg) : comR a [] = [] := by
  induction a with
  | nil => rfl
  | cons x a ih =>
    have e : comR (x :: a) [] = [] ++ comR a [] := rfl
    rw [e, ih]
    rfl
end Num
def lenV : Value → Nat
  | .slice _ n _ => n
  | _ => 0

theorem icom_yes (l m : List Rg) (A A' : Option Addr) (cap cap' B : Nat) (w : World) (hB : B ≤ w.heap.size) (hr : Rgs w B A l) (hr' : Rgs w B A' m) (hnm : l.length + m.length ≤ 1048576) (hc : l.length ≤ cap) (hc' : m.length ≤ cap') (hk : okR (-1) l) (hk' : okR (-1) m) :
    Calls Tryz.prog 101 #[.slice A l.length cap, .slice A' m.length cap'] w fun e w' => ∃ v, e = .returned v ∧ OwnR w' w.heap.size v (comR l m) ∧ Below w.heap.size w w' := by
  have HC := LH (iisr l A cap B w hB hr (by omega))
  rw [decide_eq_true hk] at HC
  have HC' : Hid (∀ W, Below w.heap.size w W → Calls Tryz.prog 86 #[.slice A' m.length cap'] W fun e w' => e = .returned (.bool true) ∧ Below W.heap.size W w') := LH fun W hW => by
    have := iisr m A' cap' B W (by have := hW.size; omega) (hr'.below hB hW) (by omega)
    rw [decide_eq_true hk'] at this
    exact this
  have HR := LH hr
  have HR' := LH hr'
  have HK := LH hk
  have HK' := LH hk'
  clear hr hr' hk hk'
  go_enter Tryz.func101, Tryz.ntmps101
  go_wp2_with fail
  refine HC.out.mono ?_
  rintro e w1 ⟨rfl, hb1⟩
  have HB1 := LH hb1
  clear hb1
  go_wp2_with fail
  refine (HC'.out _ HB1.out).mono ?_
  rintro e w2 ⟨rfl, hb2⟩
  have HB2 := LH (HB1.out.trans (hb2.mono HB1.out.size))
  clear hb2
  go_wp2
  go_loopw [0, 1, 5] (fun va vb vo wr => ∃ (a b acc : List Rg) (Aa Ab : Option Addr) (ca cb : Nat) (p q : Int), va = .slice Aa a.length ca ∧ vb = .slice Ab b.length cb ∧ a.length ≤ ca ∧ b.length ≤ cb ∧ Rgs wr B Aa a ∧ Rgs wr B Ab b ∧ okR p a ∧ okR q b ∧ comR l m = acc ++ comR a b ∧ acc.length + a.length + b.length ≤ l.length + m.length ∧ OwnR wr w.heap.size vo acc ∧ Below w.heap.size w wr) (fun va vb _ _ => lenV va + lenV vb)
  case atStart => exact ⟨l, m, [], A, A', cap, cap', -1, -1, rfl, rfl, hc, hc', HR.out.below hB HB2.out, HR'.out.below hB HB2.out, HK.out, HK'.out, rfl, by simp, OwnR.empty, HB2.out⟩
  case round =>
    obtain ⟨a, b, acc, Aa, Ab, ca, cb, p, q, rfl, rfl, hca, hcb, hra, hrb, hka, hkb, he, hlen, ho, hb⟩ := hrel
    have HRA := LH hra
    have HRB := LH hrb
    have HKA := LH hka
    have HKB := LH hkb
    have HE := LH he
    have HO := LH ho
    have HB := LH hb
    clear hra hrb hka hkb he ho hb HC HC' HR HR' HK HK'
    cases a with
    | nil =>
      have HE2 : Hid (comR l m = acc) := LH (by rw [HE.out]; simp [comR])
      go_wp2
      go_ret
      exact ⟨_, rfl, by rw [HE2.out]; exact HO.out, HB.out⟩
    | cons x a =>
      cases b with
      | nil =>
        have HE2 : Hid (comR l m = acc) := LH (by rw [HE.out, com_none, List.append_nil])
        go_wp2
        go_ret
        exact ⟨_, rfl, by rw [HE2.out]; exact HO.out, HB.out⟩
      | cons y b =>
        obtain ⟨g, off, rfl, hgB, c1, c2⟩ := HRA.out.head
        obtain ⟨g', off', rfl, hgB', d1, d2⟩ := HRB.out.head
        have HTA := LH HRA.out.tail
        have HTB := LH HRB.out.tail
        simp only [List.length_cons] at hca hcb hlen
        have hwr : w.heap.size ≤ wr.heap.size := HB.out.size
        obtain ⟨M, hmax⟩ : ∃ M : Int, (if x.1 < y.1 then y.1 else x.1) = M := ⟨_, rfl⟩
        obtain ⟨mm, hmin⟩ : ∃ mm : Int, (if y.2 < x.2 then y.2 else x.2) = mm := ⟨_, rfl⟩
        have hbo : bothR x y = if M < mm then [(M, mm)] else [] := by
          have e1 : max x.1 y.1 = M := by rw [← hmax]; split <;> omega
          have e2 : min x.2 y.2 = mm := by rw [← hmin]; split <;> omega
          unfold bothR
          rw [e1, e2]
        have hbl : (bothR x y).length ≤ 1 := by unfold bothR; split <;> simp
        have hS : ∀ W, Below w.heap.size wr W → W.cell? ⟨g, off, none⟩ = some (.int .i64 x.1) ∧ W.cell? ⟨g, off + 1, none⟩ = some (.int .i64 x.2) ∧ W.cell? ⟨g', off', none⟩ = some (.int .i64 y.1) ∧ W.cell? ⟨g', off' + 1, none⟩ = some (.int .i64 y.2) := fun W h =>
          ⟨(h.cell (by show g < _; omega)).trans c1, (h.cell (by show g < _; omega)).trans c2, (h.cell (by show g' < _; omega)).trans d1, (h.cell (by show g' < _; omega)).trans d2⟩
        have HH := LH hS
        clear c1 c2 d1 d2
        have hS1 := hS wr (Below.refl _ _)
        obtain ⟨c1, c2, d1, d2⟩ := hS1
        go_wp2
        go_region_held3 (fun W => W.cell? ⟨g, off, none⟩ = some (.int .i64 x.1) ∧ W.cell? ⟨g, off + 1, none⟩ = some (.int .i64 x.2) ∧ W.cell? ⟨g', off', none⟩ = some (.int .i64 y.1) ∧ W.cell? ⟨g', off' + 1, none⟩ = some (.int .i64 y.2)) (first | exact hS _ (Below.refl _ _).drew | exact hS _ ((Below.refl _ _).drew.alloc hwr _)) (fail)
        all_goals (
          have HBq := LH (HB.out.alloc hwr (.cells #[.int .i64 M, .int .i64 mm] 59)).drew
          have HOq : Hid (OwnR (wr.alloc (.cells #[.int .i64 M, .int .i64 mm] 59)).drew w.heap.size _ acc) := LH (HO.out.alloc _)
          have HXq : Hid (Box (wr.alloc (.cells #[.int .i64 M, .int .i64 mm] 59)).drew wr.heap.size (M, mm)) := LH (Box.new wr (M, mm))
          have hwq : w.heap.size ≤ (wr.alloc (.cells #[.int .i64 M, .int .i64 mm] 59)).drew.heap.size := HBq.out.size
          have HCq := LH (HH.out _ ((Below.refl _ wr).alloc hwr (.cells #[.int .i64 M, .int .i64 mm] 59)).drew)
          have HTAq := LH (HTA.out.below hB ((Below.refl _ wr).alloc hwr (.cells #[.int .i64 M, .int .i64 mm] 59)).drew)
          have HTBq := LH (HTB.out.below hB ((Below.refl _ wr).alloc hwr (.cells #[.int .i64 M, .int .i64 mm] 59)).drew)
          have HRAq := LH (HRA.out.below hB ((Below.refl _ wr).alloc hwr (.cells #[.int .i64 M, .int .i64 mm] 59)).drew)
          have HRBq := LH (HRB.out.below hB ((Below.refl _ wr).alloc hwr (.cells #[.int .i64 M, .int .i64 mm] 59)).drew)
          clear hS HH HB HO hmax hmin c1 c2 d1 d2 HTA HTB HRA HRB
          generalize (wr.alloc (.cells #[.int .i64 M, .int .i64 mm] 59)).drew = wq at *
          obtain ⟨q1, q2⟩ := HXq.out.cells
          by_cases h1 : M < mm
          · have hd1 : decide (M < mm) = true := decide_eq_true h1
            have HBO : Hid (bothR x y = [(M, mm)]) := LH (by rw [hbo, if_pos h1])
            clear hbo h1
            go_wp2_with (at_builtin; refine wpList_append_rgs _ rfl (.tmp 47) (.tmp 49) rfl w.heap.size _ acc rfl (OwnR.alloc (w := wq) HOq.out _) wq.heap.size 0 1 1 _ [(M, mm)] rfl rfl (rgs_one wq (M, mm) _) (by omega) (by simp; omega) ?_; intro v5 w5 h5 b5)
            have b6 := ((Below.refl _ wq).alloc hwq (.cells #[.int .i64 M, .int .i64 mm] 59)).trans b5
            have HB5 := LH (HBq.out.trans b6)
            have HO5 : Hid (OwnR w5 w.heap.size v5 (acc ++ bothR x y)) := LH (by rw [HBO.out]; exact h5)
            have HTA := LH (HTAq.out.below hB b6)
            have HTB := LH (HTBq.out.below hB b6)
            have HRA := LH (HRAq.out.below hB b6)
            have HRB := LH (HRBq.out.below hB b6)
            obtain ⟨_, c2, _, d2⟩ := HCq.out
            replace c2 := (b6.cell (p := ⟨g, off + 1, none⟩) (by show g < _; omega)).trans c2
            replace d2 := (b6.cell (p := ⟨g', off' + 1, none⟩) (by show g' < _; omega)).trans d2
            clear b5 b6 h5 HBq HOq HXq HCq HTAq HTBq HRAq HRBq q1 q2 hwq hd1
            by_cases h2 : x.2 < y.2
            · have hd2 : decide (x.2 < y.2) = true := decide_eq_true h2
              have HE2 : Hid (comR l m = (acc ++ bothR x y) ++ comR a (y :: b)) := LH (by rw [HE.out, com_first x y a b p q HKA.out HKB.out h2, List.append_assoc])
              clear h2
              by_cases hc1 : ca = 1
              · subst hc1
                obtain rfl : a = [] := List.eq_nil_of_length_eq_zero (by omega)
                go_wp2
                go_quiet (fail)
                go_wp2
                go_roundw
                case rel => exact ⟨[], y :: b, acc ++ bothR x y, _, _, _, cb, x.2, q, rfl, rfl, by simp, by simpa using hcb, Rgs.nil, HRB.out.below hB (belowR_drewN (Below.refl w.heap.size _) _), HKA.out.2.2.2, HKB.out, HE2.out, by rw [List.length_append]; simp only [List.length_cons, List.length_nil]; omega, HO5.out, belowR_drewN HB5.out _⟩
                case measure => simp [lenV]
              · have hc2 : (ca = 1) = False := eq_false hc1
                go_wp2
                go_quiet (fail)
                go_wp2
                go_roundw
                case rel => exact ⟨a, y :: b, acc ++ bothR x y, _, _, _, cb, x.2, q, rfl, rfl, by omega, by simpa using hcb, HTA.out.below hB (belowR_drewN (Below.refl w.heap.size _) _), HRB.out.below hB (belowR_drewN (Below.refl w.heap.size _) _), HKA.out.2.2.2, HKB.out, HE2.out, by rw [List.length_append]; simp only [List.length_cons]; omega, HO5.out, belowR_drewN HB5.out _⟩
                case measure => simp [lenV]
            · have hd2 : decide (x.2 < y.2) = false := decide_eq_false h2
              have HE2 : Hid (comR l m = (acc ++ bothR x y) ++ comR (x :: a) b) := LH (by rw [HE.out, com_second x y a b p q HKA.out HKB.out h2, List.append_assoc])
              clear h2
              by_cases hc1 : cb = 1
              · subst hc1
                obtain rfl : b = [] := List.eq_nil_of_length_eq_zero (by omega)
                go_wp2
                go_quiet (fail)
                go_wp2
                go_roundw
                case rel => exact ⟨x :: a, [], acc ++ bothR x y, _, _, ca, _, p, y.2, rfl, rfl, by simpa using hca, by simp, HRA.out.below hB (belowR_drewN (Below.refl w.heap.size _) _), Rgs.nil, HKA.out, HKB.out.2.2.2, HE2.out, by rw [List.length_append]; simp only [List.length_cons, List.length_nil]; omega, HO5.out, belowR_drewN HB5.out _⟩
                case measure => simp [lenV]
              · have hc2 : (cb = 1) = False := eq_false hc1
                go_wp2
                go_quiet (fail)
                go_wp2
                go_roundw
                case rel => exact ⟨x :: a, b, acc ++ bothR x y, _, _, ca, _, p, y.2, rfl, rfl, by simpa using hca, by omega, HRA.out.below hB (belowR_drewN (Below.refl w.heap.size _) _), HTB.out.below hB (belowR_drewN (Below.refl w.heap.size _) _), HKA.out, HKB.out.2.2.2, HE2.out, by rw [List.length_append]; simp only [List.length_cons]; omega, HO5.out, belowR_drewN HB5.out _⟩
                case measure => simp [lenV]
          · have hd1 : decide (M < mm) = false := decide_eq_false h1
            have HBO : Hid (bothR x y = []) := LH (by rw [hbo, if_neg h1])
            clear hbo h1
            go_wp2
            have HO5 : Hid (OwnR wq w.heap.size _ (acc ++ bothR x y)) := LH (by rw [HBO.out, List.append_nil]; exact HOq.out)
            have HB5 := HBq
            have HTA := HTAq
            have HTB := HTBq
            have HRA := HRAq
            have HRB := HRBq
            obtain ⟨_, c2, _, d2⟩ := HCq.out
            clear HBq HOq HXq HCq HTAq HTBq HRAq HRBq q1 q2 hwq hd1
            by_cases h2 : x.2 < y.2
            · have hd2 : decide (x.2 < y.2) = true := decide_eq_true h2
              have HE2 : Hid (comR l m = (acc ++ bothR x y) ++ comR a (y :: b)) := LH (by rw [HE.out, com_first x y a b p q HKA.out HKB.out h2, List.append_assoc])
              clear h2
              by_cases hc1 : ca = 1
              · subst hc1
                obtain rfl : a = [] := List.eq_nil_of_length_eq_zero (by omega)
                go_wp2
                go_quiet (fail)
                go_wp2
                go_roundw
                case rel => exact ⟨[], y :: b, acc ++ bothR x y, _, _, _, cb, x.2, q, rfl, rfl, by simp, by simpa using hcb, Rgs.nil, HRB.out.below hB (belowR_drewN (Below.refl w.heap.size _) _), HKA.out.2.2.2, HKB.out, HE2.out, by rw [List.length_append]; simp only [List.length_cons, List.length_nil]; omega, HO5.out, belowR_drewN HB5.out _⟩
                case measure => simp [lenV]
              · have hc2 : (ca = 1) = False := eq_false hc1
                go_wp2
                go_quiet (fail)
                go_wp2
                go_roundw
                case rel => exact ⟨a, y :: b, acc ++ bothR x y, _, _, _, cb, x.2, q, rfl, rfl, by omega, by simpa using hcb, HTA.out.below hB (belowR_drewN (Below.refl w.heap.size _) _), HRB.out.below hB (belowR_drewN (Below.refl w.heap.size _) _), HKA.out.2.2.2, HKB.out, HE2.out, by rw [List.length_append]; simp only [List.length_cons]; omega, HO5.out, belowR_drewN HB5.out _⟩
                case measure => simp [lenV]
            · have hd2 : decide (x.2 < y.2) = false := decide_eq_false h2
              have HE2 : Hid (comR l m = (acc ++ bothR x y) ++ comR (x :: a) b) := LH (by rw [HE.out, com_second x y a b p q HKA.out HKB.out h2, List.append_assoc])
              clear h2
              by_cases hc1 : cb = 1
              · subst hc1
                obtain rfl : b = [] := List.eq_nil_of_length_eq_zero (by omega)
                go_wp2
                go_quiet (fail)
                go_wp2
                go_roundw
                case rel => exact ⟨x :: a, [], acc ++ bothR x y, _, _, ca, _, p, y.2, rfl, rfl, by simpa using hca, by simp, HRA.out.below hB (belowR_drewN (Below.refl w.heap.size _) _), Rgs.nil, HKA.out, HKB.out.2.2.2, HE2.out, by rw [List.length_append]; simp only [List.length_cons, List.length_nil]; omega, HO5.out, belowR_drewN HB5.out _⟩
                case measure => simp [lenV]
              · have hc2 : (cb = 1) = False := eq_false hc1
                go_wp2
                go_quiet (fail)
                go_wp2
                go_roundw
                case rel => exact ⟨x :: a, b, acc ++ bothR x y, _, _, ca, _, p, y.2, rfl, rfl, by simpa using hca, by omega, HRA.out.below hB (belowR_drewN (Below.refl w.heap.size _) _), HTB.out.below hB (belowR_drewN (Below.refl w.heap.size _) _), HKA.out, HKB.out.2.2.2, HE2.out, by rw [List.length_append]; simp only [List.length_cons]; omega, HO5.out, belowR_drewN HB5.out _⟩
                case measure => simp [lenV])

theorem icom_no (l m : List Rg) (A A' : Option Addr) (cap cap' B : Nat) (w : World) (hB : B ≤ w.heap.size) (hr : Rgs w B A l) (hr' : Rgs w B A' m) (hnm : l.length + m.length ≤ 1048576) (hk : ¬ (okR (-1) l ∧ okR (-1) m)) :
    Calls Tryz.prog 101 #[.slice A l.length cap, .slice A' m.length cap'] w fun e w' => ∃ v, e = .returned v ∧ OwnR w' w.heap.size v [] ∧ Below w.heap.size w w' := by
  have HC := LH (iisr l A cap B w hB hr (by omega))
  have HC' : Hid (∀ W, Below w.heap.size w W → Calls Tryz.prog 86 #[.slice A' m.length cap'] W fun e w' => e = .returned (.bool (decide (okR (-1) m))) ∧ Below W.heap.size W w') := LH fun W hW =>
    iisr m A' cap' B W (by have := hW.size; omega) (hr'.below hB hW) (by omega)
  clear hr hr'
  by_cases h1 : okR (-1) l
  · have h2 : ¬ okR (-1) m := fun h => hk ⟨h1, h⟩
    rw [decide_eq_true h1] at HC
    rw [decide_eq_false h2] at HC'
    clear hk h1 h2
    go_enter Tryz.func101, Tryz.ntmps101
    go_wp2_with fail
    refine HC.out.mono ?_
    rintro e w1 ⟨rfl, hb1⟩
    have HB1 := LH hb1
    clear hb1
    go_wp2_with fail
    refine (HC'.out _ HB1.out).mono ?_
    rintro e w2 ⟨rfl, hb2⟩
    have HB2 := LH (HB1.out.trans (hb2.mono HB1.out.size))
    clear hb2
    go_wp2
    go_ret
    exact ⟨_, rfl, OwnR.empty, HB2.out⟩
  · rw [decide_eq_false h1] at HC
    clear hk h1
    go_enter Tryz.func101, Tryz.ntmps101
    go_wp2_with fail
    refine HC.out.mono ?_
    rintro e w1 ⟨rfl, hb1⟩
    have HB1 := LH hb1
    clear hb1
    go_wp2
    go_ret
    exact ⟨_, rfl, OwnR.empty, HB1.out⟩
end Go.Proofs.YtdaoaedkjoknmaaGreat
