/-
  The law on overlaps and popping, walked.
-/
import Derived.Test.YtjgabiklmloogaaLCommonRanges
import Derived.Test.YtjgabiklmloogaaLPopRange
import Derived.Test.YtjgabiklmloogaaDraws3P
import Derived.Test.YtjgabiklmloogaaBig
import Derived.Deep.DeepCutAuto
import Derived.Deep.CutBlock
namespace Go.Proofs.Ytjgabiklmloogaa
open Go.RowKit Go.Deep Go.Proofs.Ytjgabiklmloogaa.Num

/-- Of two lists, both functions give one list; of valid ones, what both contain. -/
theorem com_more (l m : List Rg) (hnm : l.length + m.length ≤ 1048576) : ∃ r : List Rg, r.length ≤ m.length * l.length ∧ (okR (-1) l → okR (-1) m → ∀ n, hasR r n ↔ hasR l n ∧ hasR m n) ∧
    (∀ (A A' : Option Addr) (cap cap' B : Nat) (w : World), B ≤ w.heap.size → Rgs w B A l → Rgs w B A' m → Calls Try.prog 17 #[.slice A l.length cap, .slice A' m.length cap'] w fun e w' => ∃ v, e = .returned v ∧ OwnR w' w.heap.size v r ∧ Below w.heap.size w w') ∧
    (∀ (A A' : Option Addr) (cap cap' B : Nat) (w : World), B ≤ w.heap.size → Rgs w B A l → Rgs w B A' m → l.length ≤ cap → m.length ≤ cap' → Calls Try.prog 15 #[.slice A l.length cap, .slice A' m.length cap'] w fun e w' => ∃ v, e = .returned v ∧ OwnR w' w.heap.size v r ∧ Below w.heap.size w w') := by
  by_cases hk : okR (-1) l ∧ okR (-1) m
  · exact ⟨comR l m, com_len m l, fun _ _ n => comR_has l m n, fun A A' cap cap' B w hB hr hr' => scom_yes l m A A' cap cap' B w hB hr hr' hnm hk.1 hk.2, fun A A' cap cap' B w hB hr hr' hc hc' => icom_yes l m A A' cap cap' B w hB hr hr' hnm hc hc' hk.1 hk.2⟩
  · exact ⟨[], by simp, fun h1 h2 => absurd ⟨h1, h2⟩ hk, fun A A' cap cap' B w hB hr hr' => scom_no l m A A' cap cap' B w hB hr hr' hnm hk, fun A A' cap cap' B w hB hr hr' _ _ => icom_no l m A A' cap cap' B w hB hr hr' hnm hk⟩
namespace Num
/-- What a popped range and the rest have to do with one another. -/
def PopOk (l : List Rg) (most : Int) (t : Rg) (r : List Rg) : Prop := okR (-1) l ∧ okR (-1) r ∧ 0 ≤ t.1 ∧ t.1 < t.2 ∧ t.2 ≤ 4611686018427387903 ∧ t.2 - t.1 ≤ most ∧ cntR r = cntR l - (t.2 - t.1) ∧ (∀ y s, r = y :: s → t.2 ≤ y.1) ∧ r.length ≤ l.length
theorem pop_ok (x : Rg) (l : List Rg) (most : Int) (hk : okR (-1) (x :: l)) (hm : 1 ≤ most) : PopOk (x :: l) most (topR x most) (remR (topR x most) (x :: l)) := by
  have h1 := hk.1
  have h2 := hk.2.1
  have h3 := hk.2.2.1
  have h4 := hk.2.2.2
  unfold topR
  split
  · rename_i h
    rw [remR_some x (x.1 + most) l (-1) hk (by omega) (by omega)]
    refine ⟨hk, ⟨by show -1 < x.1 + most; omega, by show x.1 + most < x.2; omega, h3, h4⟩, by show 0 ≤ x.1; omega, by show x.1 < x.1 + most; omega, by show x.1 + most ≤ _; omega, by show x.1 + most - x.1 ≤ most; omega, ?_, ?_, by simp⟩
    · show x.2 - (x.1 + most) + cntR l = x.2 - x.1 + cntR l - (x.1 + most - x.1)
      omega
    · intro y s e
      injection e with e1 _
      subst e1
      exact Int.le_refl _
  · rename_i h
    rw [remR_all x l (-1) hk]
    refine ⟨hk, h4.weaker (by omega), by omega, h2, h3, by omega, ?_, ?_, by simp⟩
    · show cntR l = x.2 - x.1 + cntR l - (x.2 - x.1)
      omega
    · intro y s e
      subst e
      have := h4.1
      omega
end Num
/-- Of a list and a number, both functions give one range, one list and one answer. -/
theorem pop_more (l : List Rg) (most : Int) (hn : l.length ≤ 1048576) : ∃ (t : Rg) (b : Bool) (r : List Rg), r.length ≤ 2 * l.length ∧ (b = true → PopOk l most t r) ∧
    (∀ (A : Option Addr) (cap B : Nat) (w : World), B ≤ w.heap.size → Rgs w B A l → Calls Try.prog 22 #[.slice A l.length cap, .int .i64 most] w fun e w' => ∃ v, e = .returned (.tuple #[rgV t, v, .bool b]) ∧ OwnR w' w.heap.size v r ∧ Below w.heap.size w w') ∧
    (∀ (A : Option Addr) (cap B : Nat) (w : World), B ≤ w.heap.size → Rgs w B A l → Calls Try.prog 21 #[.slice A l.length cap, .int .i64 most] w fun e w' => ∃ v, e = .returned (.tuple #[rgV t, v, .bool b]) ∧ OwnS w' w.heap.size v r ∧ Below w.heap.size w w') := by
  by_cases hk : okR (-1) l ∧ l ≠ [] ∧ 1 ≤ most
  · cases l with
    | nil => exact absurd rfl hk.2.1
    | cons x l =>
      refine ⟨topR x most, true, remR (topR x most) (x :: l), ?_, fun _ => pop_ok x l most hk.1 hk.2.2, fun A cap B w hB hr => ?_, fun A cap B w hB hr => ipop_yes x l most A cap B w hB hr (by omega) hk.1 hk.2.2⟩
      · exact remR_len (topR x most) (x :: l)
      · exact spop_yes (x :: l) most A cap B w hB hr (by omega) hk.1 (by simp) hk.2.2
  · exact ⟨(0, 0), false, l, by omega, (fun h => by cases h), fun A cap B w hB hr => spop_no l most A cap B w hB hr (by omega) hk, fun A cap B w hB hr => ipop_no l most A cap B w hB hr (by omega) hk⟩

set_option maxRecDepth 100000 in
/-- laws.span -/
theorem lspan (l : List Rg) (n : Int) (A : Option Addr) (cap B : Nat) (w : World) (hB : B ≤ w.heap.size) (hr : Rgs w B A l) (hn : l.length ≤ 1000000000000) :
    Calls Try.prog 19 #[.slice A l.length cap, .int .i64 n] w fun e w' => e = .returned (.bool (decide (hasR l n))) ∧ Below w.heap.size w w' := by
  have HR := Lib.hid hr
  clear hr
  go_enter Try.func19, Try.ntmps19
  go_wp2
  go_loopw [5] (fun i wr => ∃ j : Nat, j ≤ l.length ∧ i = .int .i64 j ∧ ¬ hasR (l.take j) n ∧ Below w.heap.size w wr) (fun i _ => l.length - (intOf i).toNat)
  case atStart => exact ⟨0, Nat.zero_le _, rfl, hasR_nil n, Below.refl _ _⟩
  case round =>
    obtain ⟨j, hj, rfl, hp, hb⟩ := hrel
    have HP := Lib.hid hp
    have HB := Lib.hid hb
    clear hp hb
    by_cases hlt : j < l.length
    · have HRW := Lib.hid (HR.out.below hB HB.out)
      obtain ⟨b, off, rfl, hbB, c1, c2⟩ := HRW.out j hlt
      by_cases h1 : l[j].1 ≤ n
      · have hd1 : decide (l[j].1 ≤ n) = true := decide_eq_true h1
        by_cases h2 : n < l[j].2
        · have hd2 : decide (n < l[j].2) = true := decide_eq_true h2
          have HH : Hid (hasR l n) := Lib.hid ⟨l[j], List.getElem_mem hlt, h1, h2⟩
          clear h1 h2
          go_wp2
          go_ret
          exact ⟨by rw [decide_eq_true HH.out]; rfl, HB.out⟩
        · have hd2 : decide (n < l[j].2) = false := decide_eq_false h2
          have HH : Hid (¬ hasR (l.take (j + 1)) n) := Lib.hid (by rw [hasR_step l j hlt]; rintro (h | ⟨_, h⟩); exact HP.out h; exact h2 h)
          clear h1 h2
          go_wp2
          go_roundw
          case rel => exact ⟨j + 1, hlt, by go_num, HH.out, HB.out⟩
          case measure => simp [intOf]; omega
      · have hd1 : decide (l[j].1 ≤ n) = false := decide_eq_false h1
        have HH : Hid (¬ hasR (l.take (j + 1)) n) := Lib.hid (by rw [hasR_step l j hlt]; rintro (h | ⟨h, _⟩); exact HP.out h; exact h1 h)
        clear h1
        go_wp2
        go_roundw
        case rel => exact ⟨j + 1, hlt, by go_num, HH.out, HB.out⟩
        case measure => simp [intOf]; omega
    · obtain rfl : j = l.length := by omega
      have HP2 := Lib.hid HP.out
      rw [List.take_of_length_le (Nat.le_refl _)] at HP2
      go_wp2
      go_ret
      exact ⟨by rw [decide_eq_false HP2.out]; rfl, HB.out⟩

/-- A bool that is known. -/
theorem decide_eq_true_fun {p : Prop} [Decidable p] (h : p) : decide p = true := decide_eq_true h
theorem decide_eq_false_fun {p : Prop} [Decidable p] (h : ¬ p) : decide p = false := decide_eq_false h
theorem seqr_same (l : List Rg) (A A' : Option Addr) (cap cap' B : Nat) (w : World) (hB : B ≤ w.heap.size) (hr : Rgs w B A l) (hr' : Rgs w B A' l) (hn : l.length ≤ 1000000000) :
    Calls Try.prog 16 #[.slice A l.length cap, .slice A' l.length cap'] w fun e w' => e = .returned (.bool true) ∧ Below w.heap.size w w' := by
  have := seqr l l A A' cap cap' B w hB hr hr' hn hn
  rw [decide_eq_true rfl] at this
  exact this

/-- What the last statement reads. -/
def HeldP (g : Nat) (t : Rg) (b off : Nat) (v : Option Int) (W : World) : Prop := W.cell? ⟨g, 0, none⟩ = some (.int .i64 t.1) ∧ W.cell? ⟨g, 1, none⟩ = some (.int .i64 t.2) ∧ ∀ z, v = some z → W.cell? ⟨b, off, none⟩ = some (.int .i64 z)

set_option maxRecDepth 100000 in
set_option maxHeartbeats 8000000 in
/-- The law. -/
theorem law_Pops (A : Option Addr) (len cap : Nat) (w : World) (hlen : len ≤ maxLen) (hcode : Code w w.heap.size A len) :
    Calls Try.prog 3 #[.slice A len cap] w fun e w' => e = .returned (.bool true) ∧ Below w.heap.size w w' := by
  by_cases hbig : 1048576 < len
  · go_enter Try.func3, Try.ntmps3
    go_wp2_with (go_at_call 13; refine (big_yes A len cap _ hbig hlen).mono ?_; rintro e w' ⟨rfl, rfl⟩)
    go_ret
    exact ⟨rfl, Below.refl _ _⟩
  have hsm : len ≤ 1048576 := by omega
  clear hbig
  have HC := Lib.hid hcode
  have HL := Lib.hid hlen
  clear hcode hlen
  go_enter Try.func3, Try.ntmps3
  go_wp2_with fail
  refine (big_no A len cap _ hsm).mono ?_
  rintro e w' ⟨rfl, rfl⟩
  go_wp2_with fail
  refine (draw_com A len cap _ HL.out HC.out).mono ?_
  rintro e w1 ⟨Aa, Ab, ca, cb, la, lb, rfl, hla, hlb, hca, hcb, _, _, hia, hib, hb1⟩
  have B1 := Lib.hid hb1
  have HA := Lib.hid hia
  have HB := Lib.hid hib
  obtain ⟨r, hrl, hmem, hspec, himpl⟩ := com_more la lb (by omega)
  have HM := Lib.hid hmem
  have HSP := Lib.hid hspec
  have HIM := Lib.hid himpl
  clear hb1 hia hib hmem hspec himpl
  go_wp2_with fail
  refine (HIM.out Aa Ab ca cb w1.heap.size w1 (Nat.le_refl _) HA.out HB.out hca hcb).mono ?_
  rintro e w2 ⟨v, rfl, ho2, hb2⟩
  obtain ⟨Ac, cc, rfl, _, hic⟩ := ho2.rgs
  have HCC := Lib.hid hic
  have B2 := Lib.hid (B1.out.trans (hb2.mono B1.out.size))
  have HA2 := Lib.hid ((HA.out.below (Nat.le_refl _) hb2).up hb2.size)
  have HB2 := Lib.hid ((HB.out.below (Nat.le_refl _) hb2).up hb2.size)
  clear ho2 hb2 hic HA HB
  go_wp2_with fail
  refine (HSP.out Aa Ab ca cb w2.heap.size w2 (Nat.le_refl _) HA2.out HB2.out).mono ?_
  rintro e w3 ⟨v, rfl, ho3, hb3⟩
  obtain ⟨Ad, cd, rfl, _, hid3⟩ := ho3.rgs
  have HD := Lib.hid hid3
  have B3 := Lib.hid (B2.out.trans (hb3.mono B2.out.size))
  have HA3 := Lib.hid ((HA2.out.below (Nat.le_refl _) hb3).up hb3.size)
  have HB3 := Lib.hid ((HB2.out.below (Nat.le_refl _) hb3).up hb3.size)
  have HC3 := Lib.hid ((HCC.out.below (Nat.le_refl _) hb3).up hb3.size)
  clear ho3 hb3 hid3 HA2 HB2 HCC HSP HIM
  have hrl2 : r.length ≤ 1000 := Nat.le_trans hrl (Nat.le_trans (Nat.mul_le_mul hlb hla) (by decide))
  clear hrl
  have HQ := Lib.hid (seqr_same r Ac Ad cc cd w3.heap.size w3 (Nat.le_refl _) HC3.out HD.out (by omega))
  go_wp2_with fail
  refine HQ.out.mono ?_
  rintro e w4 ⟨rfl, hb4⟩
  have B4 := Lib.hid (B3.out.trans (hb4.mono B3.out.size))
  have HA4 := Lib.hid ((HA3.out.below (Nat.le_refl _) hb4).up hb4.size)
  have HB4 := Lib.hid ((HB3.out.below (Nat.le_refl _) hb4).up hb4.size)
  have HC4 := Lib.hid ((HC3.out.below (Nat.le_refl _) hb4).up hb4.size)
  clear hb4 HA3 HB3 HC3 HD HQ
  go_upto_block 0 with fail
  go_cut [6] (fun _ wx => Below w.heap.size w wx)
  case first =>
    have HSA : Hid (∀ W, Below w4.heap.size w4 W → Calls Try.prog 18 #[.slice Aa la.length ca] W fun e w' => e = .returned (.bool (decide (okR (-1) la))) ∧ Below W.heap.size W w') := Lib.hid fun W hW => sisr la Aa ca w4.heap.size W hW.size (HA4.out.below (Nat.le_refl _) hW) (by omega)
    have HSB : Hid (∀ W, Below w4.heap.size w4 W → Calls Try.prog 18 #[.slice Ab lb.length cb] W fun e w' => e = .returned (.bool (decide (okR (-1) lb))) ∧ Below W.heap.size W w') := Lib.hid fun W hW => sisr lb Ab cb w4.heap.size W hW.size (HB4.out.below (Nat.le_refl _) hW) (by omega)
    have HPA : Hid (∀ n W, Below w4.heap.size w4 W → Calls Try.prog 19 #[.slice Aa la.length ca, .int .i64 n] W fun e w' => e = .returned (.bool (decide (hasR la n))) ∧ Below W.heap.size W w') := Lib.hid fun n W hW => lspan la n Aa ca w4.heap.size W hW.size (HA4.out.below (Nat.le_refl _) hW) (by omega)
    have HPB : Hid (∀ n W, Below w4.heap.size w4 W → Calls Try.prog 19 #[.slice Ab lb.length cb, .int .i64 n] W fun e w' => e = .returned (.bool (decide (hasR lb n))) ∧ Below W.heap.size W w') := Lib.hid fun n W hW => lspan lb n Ab cb w4.heap.size W hW.size (HB4.out.below (Nat.le_refl _) hW) (by omega)
    have HPC : Hid (∀ n W, Below w4.heap.size w4 W → Calls Try.prog 19 #[.slice Ac r.length cc, .int .i64 n] W fun e w' => e = .returned (.bool (decide (hasR r n))) ∧ Below W.heap.size W w') := Lib.hid fun n W hW => lspan r n Ac cc w4.heap.size W hW.size (HC4.out.below (Nat.le_refl _) hW) (by omega)
    clear HA4 HB4 HC4 HC
    go_wp2_with fail
    go_loopw [6] (fun x wr => ∃ k : Nat, k ≤ 40 ∧ x = .int .i64 k ∧ Below w4.heap.size w4 wr) (fun x _ => 40 - (intOf x).toNat)
    case atStart => exact ⟨0, by omega, rfl, Below.refl _ _⟩
    case round =>
      obtain ⟨k, hk, rfl, hb⟩ := hrel
      have HW := Lib.hid hb
      clear hb
      by_cases hlt : k < 40
      · by_cases oka : okR (-1) la
        · rw [decide_eq_true_fun oka] at HSA
          go_wp2_with fail
          refine (HSA.out _ HW.out).mono ?_
          rintro e w5 ⟨rfl, hb5⟩
          have HW5 := Lib.hid (HW.out.trans (hb5.mono HW.out.size))
          clear hb5 HW
          by_cases okb : okR (-1) lb
          · rw [decide_eq_true_fun okb] at HSB
            have HMM := Lib.hid (HM.out oka okb k)
            clear oka okb
            go_wp2_with fail
            refine (HSB.out _ HW5.out).mono ?_
            rintro e w6 ⟨rfl, hb6⟩
            have HW6 := Lib.hid (HW5.out.trans (hb6.mono HW5.out.size))
            clear hb6 HW5
            have hh := HMM.out
            by_cases ha : hasR la (k : Int) <;> by_cases hb : hasR lb (k : Int)
            all_goals (
              have HPA1 := Lib.hid (HPA.out k)
              have HPB1 := Lib.hid (HPB.out k)
              have HPC1 := Lib.hid (HPC.out k)
              first | (rw [decide_eq_true_fun ha] at HPA1) | (rw [decide_eq_false_fun ha] at HPA1)
              first | (rw [decide_eq_true_fun hb] at HPB1) | (rw [decide_eq_false_fun hb] at HPB1)
              first | (rw [decide_eq_true_fun (hh.2 ⟨ha, hb⟩)] at HPC1) | (rw [decide_eq_false_fun (fun h => ha (hh.1 h).1)] at HPC1) | (rw [decide_eq_false_fun (fun h => hb (hh.1 h).2)] at HPC1)
              clear ha hb hh HMM
              go_wp2_with fail
              refine (HPC1.out _ HW6.out).mono ?_
              rintro e w7 ⟨rfl, hb7⟩
              have HW7 := Lib.hid (HW6.out.trans (hb7.mono HW6.out.size))
              clear hb7
              go_wp2_with fail
              refine (HPA1.out _ HW7.out).mono ?_
              rintro e w8 ⟨rfl, hb8⟩
              have HW8 := Lib.hid (HW7.out.trans (hb8.mono HW7.out.size))
              clear hb8
              go_wp2_with (go_at_call 19; refine (HPB1.out _ HW8.out).mono ?_; rintro e w9 ⟨rfl, hb9⟩; have HW8 := Lib.hid (HW8.out.trans (hb9.mono HW8.out.size)); clear hb9)
              go_roundw
              case rel => exact ⟨k + 1, by omega, by go_num, HW8.out⟩
              case measure => simp [intOf]; omega)
          · rw [decide_eq_false_fun okb] at HSB
            clear oka okb
            go_wp2_with fail
            refine (HSB.out _ HW5.out).mono ?_
            rintro e w6 ⟨rfl, hb6⟩
            have HW6 := Lib.hid (HW5.out.trans (hb6.mono HW5.out.size))
            clear hb6 HW5
            go_wp2
            go_meet
            exact B4.out.trans (HW6.out.mono B4.out.size)
        · rw [decide_eq_false_fun oka] at HSA
          clear oka
          go_wp2_with fail
          refine (HSA.out _ HW.out).mono ?_
          rintro e w5 ⟨rfl, hb5⟩
          have HW5 := Lib.hid (HW.out.trans (hb5.mono HW.out.size))
          clear hb5 HW
          go_wp2
          go_meet
          exact B4.out.trans (HW5.out.mono B4.out.size)
      · have hd : decide ((k : Int) < 40) = false := decide_eq_false (by omega)
        go_wp2
        go_meet
        exact B4.out.trans (HW.out.mono B4.out.size)
  case rest =>
    have B5 := Lib.hid hcut
    clear hcut HA4 HB4 HC4 HM
    go_wp2_with fail
    refine (draw_pop A len cap _ HL.out (Code.later HC.out B5.out)).mono ?_
    rintro e w6 ⟨Al, cl, l, most, rfl, hll, hm0, hm1, _, hil, hb6⟩
    have B6 := Lib.hid (B5.out.trans (hb6.mono B5.out.size))
    have HL6 := Lib.hid hil
    obtain ⟨t, b, r2, hr2, hok, hsp, him⟩ := pop_more l most (by omega)
    have HOK := Lib.hid hok
    have HSP := Lib.hid hsp
    have HIM := Lib.hid him
    have hr3 : r2.length ≤ 10 := by omega
    clear hb6 hil hok hsp him HC HL B5
    go_wp2_with fail
    refine (HIM.out Al cl w6.heap.size w6 (Nat.le_refl _) HL6.out).mono ?_
    rintro e w7 ⟨v, rfl, ho7, hb7⟩
    obtain ⟨Ar, cr, rfl, _, hir⟩ := ho7.rgs
    have HR7 := Lib.hid hir
    have B7 := Lib.hid (B6.out.trans (hb7.mono B6.out.size))
    have HL7 := Lib.hid ((HL6.out.below (Nat.le_refl _) hb7).up hb7.size)
    clear ho7 hb7 hir HL6 B6 HIM
    obtain ⟨w8, hw8⟩ : ∃ wA, w7.alloc (.cells #[.int .i64 t.1, .int .i64 t.2] 34) = wA := ⟨_, rfl⟩
    have hb8 : Below w7.heap.size w7 w8 := by rw [← hw8]; exact (Below.refl _ _).alloc (Nat.le_refl _) _
    have HG8 : Hid (RBox w8 w7.heap.size t) := Lib.hid ⟨by rw [← hw8]; exact RCell.box _ _ _, by rw [← hw8]; simp⟩
    have HR8 := Lib.hid ((HR7.out.below (Nat.le_refl _) hb8).up hb8.size)
    have HL8 := Lib.hid ((HL7.out.below (Nat.le_refl _) hb8).up hb8.size)
    have B8 := Lib.hid (B7.out.trans (hb8.mono B7.out.size))
    clear hb8 HR7 HL7 B7
    go_wp2_with fail
    refine (HSP.out Al cl w8.heap.size w8 (Nat.le_refl _) HL8.out).mono ?_
    rintro e w9 ⟨v, rfl, ho9, hb9⟩
    obtain ⟨Ay, cy, rfl, _, hiy⟩ := ho9.rgs
    have HY9 := Lib.hid hiy
    have B9 := Lib.hid (B8.out.trans (hb9.mono B8.out.size))
    have HL9 := Lib.hid ((HL8.out.below (Nat.le_refl _) hb9).up hb9.size)
    have HR9 := Lib.hid ((HR8.out.below (Nat.le_refl _) hb9).up hb9.size)
    have HG9 := Lib.hid (HG8.out.later hb9)
    clear ho9 hb9 hiy HL8 HR8 HG8 B8 HSP
    obtain ⟨w10, hw10⟩ : ∃ wA, w9.alloc (.cells #[.int .i64 t.1, .int .i64 t.2] 34) = wA := ⟨_, rfl⟩
    have hb10 : Below w9.heap.size w9 w10 := by rw [← hw10]; exact (Below.refl _ _).alloc (Nat.le_refl _) _
    have HX10 : Hid (RBox w10 w9.heap.size t) := Lib.hid ⟨by rw [← hw10]; exact RCell.box _ _ _, by rw [← hw10]; simp⟩
    have HR10 := Lib.hid ((HR9.out.below (Nat.le_refl _) hb10).up hb10.size)
    have HL10 := Lib.hid ((HL9.out.below (Nat.le_refl _) hb10).up hb10.size)
    have HY10 := Lib.hid ((HY9.out.below (Nat.le_refl _) hb10).up hb10.size)
    have HG10 := Lib.hid (HG9.out.later hb10)
    have B10 := Lib.hid (B9.out.trans (hb10.mono B9.out.size))
    clear hb10 HR9 HL9 HY9 HG9 B9
    obtain ⟨cn, hcn⟩ : ∃ cn : Int, (if okR (-1) l then cntR l else -1) = cn := ⟨_, rfl⟩
    have HCN := Lib.hid hcn
    have hI := icnt l Al cl w10.heap.size w10 (Nat.le_refl _) HL10.out (by omega)
    rw [hcn] at hI
    have HI := Lib.hid hI
    clear hI hcn
    go_wp2_with fail
    refine HI.out.mono ?_
    rintro e w11 ⟨rfl, hb11⟩
    have HR11 := Lib.hid ((HR10.out.below (Nat.le_refl _) hb11).up hb11.size)
    have HL11 := Lib.hid ((HL10.out.below (Nat.le_refl _) hb11).up hb11.size)
    have HY11 := Lib.hid ((HY10.out.below (Nat.le_refl _) hb11).up hb11.size)
    have HG11 := Lib.hid (HG10.out.later hb11)
    have HX11 := Lib.hid (HX10.out.later hb11)
    have B11 := Lib.hid (B10.out.trans (hb11.mono B10.out.size))
    clear hb11 HR10 HL10 HY10 HG10 HX10 B10 HI
    obtain ⟨q1, q2⟩ := HG11.out.1
    obtain ⟨r1, r2'⟩ := HX11.out.1
    go_wp2_with fail
    refine (seqr_same r2 Ar Ay cr cy w11.heap.size w11 (Nat.le_refl _) HR11.out HY11.out (by omega)).mono ?_
    rintro e w12 ⟨rfl, hb12⟩
    have HL12 := Lib.hid ((HL11.out.below (Nat.le_refl _) hb12).up hb12.size)
    have HY12 := Lib.hid ((HY11.out.below (Nat.le_refl _) hb12).up hb12.size)
    have HG12 := Lib.hid (HG11.out.later hb12)
    have B12 := Lib.hid (B11.out.trans (hb12.mono B11.out.size))
    clear hb12 HR11 HL11 HY11 HG11 HX11 B11 q1 q2 r1 r2'
    have hI := scnt l Al cl w12.heap.size w12 (Nat.le_refl _) HL12.out (by omega)
    rw [HCN.out] at hI
    have HI := Lib.hid hI
    clear hI
    go_wp2_with fail
    refine HI.out.mono ?_
    rintro e w13 ⟨rfl, hb13⟩
    have HY13 := Lib.hid ((HY12.out.below (Nat.le_refl _) hb13).up hb13.size)
    have HG13 := Lib.hid (HG12.out.later hb13)
    have B13 := Lib.hid (B12.out.trans (hb13.mono B12.out.size))
    clear hb13 HL12 HY12 HG12 B12 HI
    obtain ⟨q1, q2⟩ := HG13.out.1
    cases b with
    | false =>
      have hS0 : HeldP w7.heap.size t 0 0 none w13.drew := ⟨q1, q2, fun z hz => by cases hz⟩
      go_wp2
      clear q1 q2
      refine wp_region_held_drew (S := HeldP w7.heap.size t 0 0 none) (by kernel_rfl) hS0 (fun hHeld => ?_)
      refine wpAnyH_take (i := 0) (v := ?_) rfl (by kernel_rfl) (by kernel_rfl) (by kernel_rfl) (fun _ _ _ h => h) (Or.inl ⟨by rfl, ?_⟩) hHeld ?_
      rotate_left
      · (intro wx hSx; obtain ⟨hs1, hs2, _⟩ := hSx; go_simp; (try with_reducible rfl))
      (try simp only [Act.put, List.getElem_toArray, List.getElem_cons_zero, List.setIfInBounds_toArray, List.set_cons_succ, List.set_cons_zero])
      refine wpAnyH_take (i := 1) (v := ?_) rfl (by kernel_rfl) (by kernel_rfl) (by kernel_rfl) (fun _ _ _ h => h) (Or.inl ⟨by rfl, ?_⟩) hHeld ?_
      rotate_left
      · (intro wx hSx; obtain ⟨hs1, hs2, _⟩ := hSx; go_simp; (try with_reducible rfl))
      (try simp only [Act.put, List.getElem_toArray, List.getElem_cons_succ, List.getElem_cons_zero, List.setIfInBounds_toArray, List.set_cons_succ, List.set_cons_zero])
      refine wpAnyH_take (i := 2) (v := ?_) rfl (by kernel_rfl) (by kernel_rfl) (by kernel_rfl) (fun _ _ _ h => h) (Or.inl ⟨by rfl, ?_⟩) hHeld ?_
      rotate_left
      · (intro wx hSx; obtain ⟨hs1, hs2, _⟩ := hSx; go_simp; (try with_reducible rfl))
      (try simp only [Act.put, List.getElem_toArray, List.getElem_cons_succ, List.getElem_cons_zero, List.setIfInBounds_toArray, List.set_cons_succ, List.set_cons_zero])
      refine wpAnyH_take (i := 3) (v := undef) rfl (by kernel_rfl) (by kernel_rfl) (by kernel_rfl) (fun _ _ _ h => h) (Or.inr ⟨by rfl, rfl⟩) hHeld ?_
      (try simp only [Act.put, List.getElem_toArray, List.getElem_cons_succ, List.getElem_cons_zero, List.setIfInBounds_toArray, List.set_cons_succ, List.set_cons_zero])
      refine wpAnyH_take (i := 4) (v := undef) rfl (by kernel_rfl) (by kernel_rfl) (by kernel_rfl) (fun _ _ _ h => h) (Or.inr ⟨by rfl, rfl⟩) hHeld ?_
      (try simp only [Act.put, List.getElem_toArray, List.getElem_cons_succ, List.getElem_cons_zero, List.setIfInBounds_toArray, List.set_cons_succ, List.set_cons_zero])
      refine wpAnyH_take (i := 5) (v := undef) rfl (by kernel_rfl) (by kernel_rfl) (by kernel_rfl) (fun _ _ _ h => h) (Or.inr ⟨by rfl, rfl⟩) hHeld ?_
      (try simp only [Act.put, List.getElem_toArray, List.getElem_cons_succ, List.getElem_cons_zero, List.setIfInBounds_toArray, List.set_cons_succ, List.set_cons_zero])
      refine wpAnyH_take (i := 6) (v := undef) rfl (by kernel_rfl) (by kernel_rfl) (by kernel_rfl) (fun _ _ _ h => h) (Or.inr ⟨by rfl, rfl⟩) hHeld ?_
      (try simp only [Act.put, List.getElem_toArray, List.getElem_cons_succ, List.getElem_cons_zero, List.setIfInBounds_toArray, List.set_cons_succ, List.set_cons_zero])
      refine wpAnyH_take (i := 7) (v := undef) rfl (by kernel_rfl) (by kernel_rfl) (by kernel_rfl) (fun _ _ _ h => h) (Or.inr ⟨by rfl, rfl⟩) hHeld ?_
      (try simp only [Act.put, List.getElem_toArray, List.getElem_cons_succ, List.getElem_cons_zero, List.setIfInBounds_toArray, List.set_cons_succ, List.set_cons_zero])
      refine wpAnyH_take (i := 8) (v := undef) rfl (by kernel_rfl) (by kernel_rfl) (by kernel_rfl) (fun _ _ _ h => h) (Or.inr ⟨by rfl, rfl⟩) hHeld ?_
      (try simp only [Act.put, List.getElem_toArray, List.getElem_cons_succ, List.getElem_cons_zero, List.setIfInBounds_toArray, List.set_cons_succ, List.set_cons_zero])
      refine wpAnyH_take (i := 9) (v := undef) rfl (by kernel_rfl) (by kernel_rfl) (by kernel_rfl) (fun _ _ _ h => h) (Or.inr ⟨by rfl, rfl⟩) hHeld ?_
      (try simp only [Act.put, List.getElem_toArray, List.getElem_cons_succ, List.getElem_cons_zero, List.setIfInBounds_toArray, List.set_cons_succ, List.set_cons_zero])
      refine wpAnyH_take (i := 10) (v := undef) rfl (by kernel_rfl) (by kernel_rfl) (by kernel_rfl) (fun _ _ _ h => h) (Or.inr ⟨by rfl, rfl⟩) hHeld ?_
      (try simp only [Act.put, List.getElem_toArray, List.getElem_cons_succ, List.getElem_cons_zero, List.setIfInBounds_toArray, List.set_cons_succ, List.set_cons_zero])
      refine wpAnyH_take (i := 11) (v := undef) rfl (by kernel_rfl) (by kernel_rfl) (by kernel_rfl) (fun _ _ _ h => h) (Or.inr ⟨by rfl, rfl⟩) hHeld ?_
      (try simp only [Act.put, List.getElem_toArray, List.getElem_cons_succ, List.getElem_cons_zero, List.setIfInBounds_toArray, List.set_cons_succ, List.set_cons_zero])
      refine wpAnyH_take (i := 12) (v := undef) rfl (by kernel_rfl) (by kernel_rfl) (by kernel_rfl) (fun _ _ _ h => h) (Or.inr ⟨by rfl, rfl⟩) hHeld ?_
      (try simp only [Act.put, List.getElem_toArray, List.getElem_cons_succ, List.getElem_cons_zero, List.setIfInBounds_toArray, List.set_cons_succ, List.set_cons_zero])
      refine wpAnyH_take (i := 13) (v := undef) rfl (by kernel_rfl) (by kernel_rfl) (by kernel_rfl) (fun _ _ _ h => h) (Or.inr ⟨by rfl, rfl⟩) hHeld ?_
      (try simp only [Act.put, List.getElem_toArray, List.getElem_cons_succ, List.getElem_cons_zero, List.setIfInBounds_toArray, List.set_cons_succ, List.set_cons_zero])
      refine wpAnyH_take (i := 14) (v := undef) rfl (by kernel_rfl) (by kernel_rfl) (by kernel_rfl) (fun _ _ _ h => h) (Or.inr ⟨by rfl, rfl⟩) hHeld ?_
      (try simp only [Act.put, List.getElem_toArray, List.getElem_cons_succ, List.getElem_cons_zero, List.setIfInBounds_toArray, List.set_cons_succ, List.set_cons_zero])
      refine wpAnyH_take (i := 15) (v := undef) rfl (by kernel_rfl) (by kernel_rfl) (by kernel_rfl) (fun _ _ _ h => h) (Or.inr ⟨by rfl, rfl⟩) hHeld ?_
      (try simp only [Act.put, List.getElem_toArray, List.getElem_cons_succ, List.getElem_cons_zero, List.setIfInBounds_toArray, List.set_cons_succ, List.set_cons_zero])
      refine wpAnyH_take (i := 16) (v := undef) rfl (by kernel_rfl) (by kernel_rfl) (by kernel_rfl) (fun _ _ _ h => h) (Or.inr ⟨by rfl, rfl⟩) hHeld ?_
      (try simp only [Act.put, List.getElem_toArray, List.getElem_cons_succ, List.getElem_cons_zero, List.setIfInBounds_toArray, List.set_cons_succ, List.set_cons_zero])
      refine wpAnyH_take (i := 17) (v := undef) rfl (by kernel_rfl) (by kernel_rfl) (by kernel_rfl) (fun _ _ _ h => h) (Or.inr ⟨by rfl, rfl⟩) hHeld ?_
      (try simp only [Act.put, List.getElem_toArray, List.getElem_cons_succ, List.getElem_cons_zero, List.setIfInBounds_toArray, List.set_cons_succ, List.set_cons_zero])
      refine wpAnyH_take (i := 18) (v := undef) rfl (by kernel_rfl) (by kernel_rfl) (by kernel_rfl) (fun _ _ _ h => h) (Or.inr ⟨by rfl, rfl⟩) hHeld ?_
      (try simp only [Act.put, List.getElem_toArray, List.getElem_cons_succ, List.getElem_cons_zero, List.setIfInBounds_toArray, List.set_cons_succ, List.set_cons_zero])
      refine wpAnyH_take (i := 19) (v := undef) rfl (by kernel_rfl) (by kernel_rfl) (by kernel_rfl) (fun _ _ _ h => h) (Or.inr ⟨by rfl, rfl⟩) hHeld ?_
      (try simp only [Act.put, List.getElem_toArray, List.getElem_cons_succ, List.getElem_cons_zero, List.setIfInBounds_toArray, List.set_cons_succ, List.set_cons_zero])
      refine wpAnyH_take (i := 20) (v := undef) rfl (by kernel_rfl) (by kernel_rfl) (by kernel_rfl) (fun _ _ _ h => h) (Or.inr ⟨by rfl, rfl⟩) hHeld ?_
      (try simp only [Act.put, List.getElem_toArray, List.getElem_cons_succ, List.getElem_cons_zero, List.setIfInBounds_toArray, List.set_cons_succ, List.set_cons_zero])
      refine wpAnyH_take (i := 21) (v := undef) rfl (by kernel_rfl) (by kernel_rfl) (by kernel_rfl) (fun _ _ _ h => h) (Or.inr ⟨by rfl, rfl⟩) hHeld ?_
      (try simp only [Act.put, List.getElem_toArray, List.getElem_cons_succ, List.getElem_cons_zero, List.setIfInBounds_toArray, List.set_cons_succ, List.set_cons_zero])
      refine wpAnyH_take (i := 22) (v := undef) rfl (by kernel_rfl) (by kernel_rfl) (by kernel_rfl) (fun _ _ _ h => h) (Or.inr ⟨by rfl, rfl⟩) hHeld ?_
      (try simp only [Act.put, List.getElem_toArray, List.getElem_cons_succ, List.getElem_cons_zero, List.setIfInBounds_toArray, List.set_cons_succ, List.set_cons_zero])
      refine wpAnyH_take (i := 23) (v := undef) rfl (by kernel_rfl) (by kernel_rfl) (by kernel_rfl) (fun _ _ _ h => h) (Or.inr ⟨by rfl, rfl⟩) hHeld ?_
      (try simp only [Act.put, List.getElem_toArray, List.getElem_cons_succ, List.getElem_cons_zero, List.setIfInBounds_toArray, List.set_cons_succ, List.set_cons_zero])
      refine wpAnyH_take (i := 24) (v := undef) rfl (by kernel_rfl) (by kernel_rfl) (by kernel_rfl) (fun _ _ _ h => h) (Or.inr ⟨by rfl, rfl⟩) hHeld ?_
      (try simp only [Act.put, List.getElem_toArray, List.getElem_cons_succ, List.getElem_cons_zero, List.setIfInBounds_toArray, List.set_cons_succ, List.set_cons_zero])
      refine wpAnyH_take (i := 25) (v := undef) rfl (by kernel_rfl) (by kernel_rfl) (by kernel_rfl) (fun _ _ _ h => h) (Or.inr ⟨by rfl, rfl⟩) hHeld ?_
      (try simp only [Act.put, List.getElem_toArray, List.getElem_cons_succ, List.getElem_cons_zero, List.setIfInBounds_toArray, List.set_cons_succ, List.set_cons_zero])
      refine wpAnyH_take (i := 26) (v := undef) rfl (by kernel_rfl) (by kernel_rfl) (by kernel_rfl) (fun _ _ _ h => h) (Or.inr ⟨by rfl, rfl⟩) hHeld ?_
      (try simp only [Act.put, List.getElem_toArray, List.getElem_cons_succ, List.getElem_cons_zero, List.setIfInBounds_toArray, List.set_cons_succ, List.set_cons_zero])
      refine wpAnyH_take (i := 27) (v := undef) rfl (by kernel_rfl) (by kernel_rfl) (by kernel_rfl) (fun _ _ _ h => h) (Or.inr ⟨by rfl, rfl⟩) hHeld ?_
      (try simp only [Act.put, List.getElem_toArray, List.getElem_cons_succ, List.getElem_cons_zero, List.setIfInBounds_toArray, List.set_cons_succ, List.set_cons_zero])
      refine wpAnyH_take (i := 28) (v := undef) rfl (by kernel_rfl) (by kernel_rfl) (by kernel_rfl) (fun _ _ _ h => h) (Or.inr ⟨by rfl, rfl⟩) hHeld ?_
      (try simp only [Act.put, List.getElem_toArray, List.getElem_cons_succ, List.getElem_cons_zero, List.setIfInBounds_toArray, List.set_cons_succ, List.set_cons_zero])
      refine wpAnyH_take (i := 29) (v := undef) rfl (by kernel_rfl) (by kernel_rfl) (by kernel_rfl) (fun _ _ _ h => h) (Or.inr ⟨by rfl, rfl⟩) hHeld ?_
      (try simp only [Act.put, List.getElem_toArray, List.getElem_cons_succ, List.getElem_cons_zero, List.setIfInBounds_toArray, List.set_cons_succ, List.set_cons_zero])
      refine wpAnyH_take (i := 30) (v := undef) rfl (by kernel_rfl) (by kernel_rfl) (by kernel_rfl) (fun _ _ _ h => h) (Or.inr ⟨by rfl, rfl⟩) hHeld ?_
      (try simp only [Act.put, List.getElem_toArray, List.getElem_cons_succ, List.getElem_cons_zero, List.setIfInBounds_toArray, List.set_cons_succ, List.set_cons_zero])
      refine wpAnyH_take (i := 31) (v := undef) rfl (by kernel_rfl) (by kernel_rfl) (by kernel_rfl) (fun _ _ _ h => h) (Or.inr ⟨by rfl, rfl⟩) hHeld ?_
      (try simp only [Act.put, List.getElem_toArray, List.getElem_cons_succ, List.getElem_cons_zero, List.setIfInBounds_toArray, List.set_cons_succ, List.set_cons_zero])
      refine wpAnyH_take (i := 32) (v := undef) rfl (by kernel_rfl) (by kernel_rfl) (by kernel_rfl) (fun _ _ _ h => h) (Or.inr ⟨by rfl, rfl⟩) hHeld ?_
      (try simp only [Act.put, List.getElem_toArray, List.getElem_cons_succ, List.getElem_cons_zero, List.setIfInBounds_toArray, List.set_cons_succ, List.set_cons_zero])
      refine wpAnyH_take (i := 33) (v := undef) rfl (by kernel_rfl) (by kernel_rfl) (by kernel_rfl) (fun _ _ _ h => h) (Or.inr ⟨by rfl, rfl⟩) hHeld ?_
      (try simp only [Act.put, List.getElem_toArray, List.getElem_cons_succ, List.getElem_cons_zero, List.setIfInBounds_toArray, List.set_cons_succ, List.set_cons_zero])
      refine wpAnyH_take (i := 34) (v := undef) rfl (by kernel_rfl) (by kernel_rfl) (by kernel_rfl) (fun _ _ _ h => h) (Or.inr ⟨by rfl, rfl⟩) hHeld ?_
      (try simp only [Act.put, List.getElem_toArray, List.getElem_cons_succ, List.getElem_cons_zero, List.setIfInBounds_toArray, List.set_cons_succ, List.set_cons_zero])
      refine wpAnyH_take (i := 35) (v := undef) rfl (by kernel_rfl) (by kernel_rfl) (by kernel_rfl) (fun _ _ _ h => h) (Or.inr ⟨by rfl, rfl⟩) hHeld ?_
      (try simp only [Act.put, List.getElem_toArray, List.getElem_cons_succ, List.getElem_cons_zero, List.setIfInBounds_toArray, List.set_cons_succ, List.set_cons_zero])
      refine wpAnyH_take (i := 36) (v := ?_) rfl (by kernel_rfl) (by kernel_rfl) (by kernel_rfl) (fun _ _ _ h => h) (Or.inl ⟨by rfl, ?_⟩) hHeld ?_
      rotate_left
      · (intro wx hSx; obtain ⟨hs1, hs2, _⟩ := hSx; go_simp; (try with_reducible rfl))
      (try simp only [Act.put, List.getElem_toArray, List.getElem_cons_succ, List.getElem_cons_zero, List.setIfInBounds_toArray, List.set_cons_succ, List.set_cons_zero])
      refine wpAnyH_take (i := 37) (v := ?_) rfl (by kernel_rfl) (by kernel_rfl) (by kernel_rfl) (fun _ _ _ h => h) (Or.inl ⟨by rfl, ?_⟩) hHeld ?_
      rotate_left
      · (intro wx hSx; obtain ⟨hs1, hs2, _⟩ := hSx; go_simp; (try with_reducible rfl))
      (try simp only [Act.put, List.getElem_toArray, List.getElem_cons_succ, List.getElem_cons_zero, List.setIfInBounds_toArray, List.set_cons_succ, List.set_cons_zero])
      refine wpAnyH_done (by kernel_rfl) ?_ _
      clear hHeld hS0
      go_wp2
      go_ret
      exact ⟨rfl, B13.out.drew⟩
    | true =>
      obtain ⟨k1, k2, k3, k4, k5, k6, k7, k8, k9⟩ := HOK.out rfl
      have hcl := HCN.out
      rw [if_pos k1] at hcl
      obtain ⟨hq0, hq1⟩ := cntR_le l (-1) k1 (by omega)
      obtain ⟨d, hdd⟩ : ∃ d : Int, t.2 - t.1 = d := ⟨_, rfl⟩
      obtain ⟨s, hss⟩ : ∃ s : Int, cntR r2 = s := ⟨_, rfl⟩
      have hsub : IntKind.i64.wrap (t.2 - t.1) = d := by rw [IntKind.wrap_i64]; omega
      have hsub2 : IntKind.i64.wrap (cn - d) = s := by rw [IntKind.wrap_i64]; omega
      have hle : decide (d ≤ most) = true := decide_eq_true (by omega)
      have HCY : Hid (∀ W, Below w13.heap.size w13 W → Calls Try.prog 23 #[.slice Ay r2.length cy] W fun e w' => e = .returned (.int .i64 s) ∧ Below W.heap.size W w') := Lib.hid fun W hW => by
        have := icnt r2 Ay cy w13.heap.size W hW.size (HY13.out.below (Nat.le_refl _) hW) (by omega)
        rw [if_pos k2, hss] at this
        exact this
      have HG := HG13
      cases r2 with
      | nil =>
        have hS0 : HeldP w7.heap.size t 0 0 none w13.drew := ⟨q1, q2, fun z hz => by cases hz⟩
        have hS1 : ∀ w1, Below w13.drew.heap.size w13.drew w1 → HeldP w7.heap.size t 0 0 none w1 := fun w1 h => ⟨(h.cell HG.out.2).trans q1, (h.cell HG.out.2).trans q2, fun z hz => by cases hz⟩
        have HS1 := Lib.hid hS1
        clear hdd hss k1 k2 k3 k4 k5 k6 k7 k8 k9 hcl hq0 hq1 HY13 hS1 hr2 hr3
        go_wp2
        clear q1 q2
        refine wp_region_held_drew (S := HeldP w7.heap.size t 0 0 none) (by kernel_rfl) hS0 (fun hHeld => ?_)
        refine wpAnyH_take (i := 0) (v := ?_) rfl (by kernel_rfl) (by kernel_rfl) (by kernel_rfl) (fun _ _ _ h => h) (Or.inl ⟨by rfl, ?_⟩) hHeld ?_
        rotate_left
        · (intro wx hSx; obtain ⟨hs1, hs2, _⟩ := hSx; go_simp; (try with_reducible rfl))
        (try simp only [Act.put, List.getElem_toArray, List.getElem_cons_zero, List.setIfInBounds_toArray, List.set_cons_succ, List.set_cons_zero])
        refine wpAnyH_take (i := 1) (v := ?_) rfl (by kernel_rfl) (by kernel_rfl) (by kernel_rfl) (fun _ _ _ h => h) (Or.inl ⟨by rfl, ?_⟩) hHeld ?_
        rotate_left
        · (intro wx hSx; obtain ⟨hs1, hs2, _⟩ := hSx; go_simp; (try with_reducible rfl))
        (try simp only [Act.put, List.getElem_toArray, List.getElem_cons_succ, List.getElem_cons_zero, List.setIfInBounds_toArray, List.set_cons_succ, List.set_cons_zero])
        refine wpAnyH_take (i := 2) (v := ?_) rfl (by kernel_rfl) (by kernel_rfl) (by kernel_rfl) (fun _ _ _ h => h) (Or.inl ⟨by rfl, ?_⟩) hHeld ?_
        rotate_left
        · (intro wx hSx; obtain ⟨hs1, hs2, _⟩ := hSx; go_simp; (try with_reducible rfl))
        (try simp only [Act.put, List.getElem_toArray, List.getElem_cons_succ, List.getElem_cons_zero, List.setIfInBounds_toArray, List.set_cons_succ, List.set_cons_zero])
        refine wpAnyH_take (i := 3) (v := ?_) rfl (by kernel_rfl) (by kernel_rfl) (by kernel_rfl) (fun _ _ _ h => h) (Or.inl ⟨by rfl, ?_⟩) hHeld ?_
        rotate_left
        · (intro wx hSx; obtain ⟨hs1, hs2, _⟩ := hSx; go_simp; (try with_reducible rfl))
        (try simp only [Act.put, List.getElem_toArray, List.getElem_cons_succ, List.getElem_cons_zero, List.setIfInBounds_toArray, List.set_cons_succ, List.set_cons_zero])
        refine wpAnyH_take (i := 4) (v := ?_) rfl (by kernel_rfl) (by kernel_rfl) (by kernel_rfl) (fun _ _ _ h => h) (Or.inl ⟨by rfl, ?_⟩) hHeld ?_
        rotate_left
        · (intro wx hSx; obtain ⟨hs1, hs2, _⟩ := hSx; go_simp; (try with_reducible rfl))
        (try simp only [Act.put, List.getElem_toArray, List.getElem_cons_succ, List.getElem_cons_zero, List.setIfInBounds_toArray, List.set_cons_succ, List.set_cons_zero])
        refine wpAnyH_take (i := 5) (v := ?_) rfl (by kernel_rfl) (by kernel_rfl) (by kernel_rfl) (fun _ _ _ h => h) (Or.inl ⟨by rfl, ?_⟩) hHeld ?_
        rotate_left
        · (intro wx hSx; obtain ⟨hs1, hs2, _⟩ := hSx; go_simp; (try with_reducible rfl))
        (try simp only [Act.put, List.getElem_toArray, List.getElem_cons_succ, List.getElem_cons_zero, List.setIfInBounds_toArray, List.set_cons_succ, List.set_cons_zero])
        refine wpAnyH_take (i := 6) (v := ?_) rfl (by kernel_rfl) (by kernel_rfl) (by kernel_rfl) (fun _ _ _ h => h) (Or.inl ⟨by rfl, ?_⟩) hHeld ?_
        rotate_left
        · (intro wx hSx; obtain ⟨hs1, hs2, _⟩ := hSx; go_simp; (try with_reducible rfl))
        (try simp only [Act.put, List.getElem_toArray, List.getElem_cons_succ, List.getElem_cons_zero, List.setIfInBounds_toArray, List.set_cons_succ, List.set_cons_zero])
        refine wpAnyH_take (i := 7) (v := ?_) rfl (by kernel_rfl) (by kernel_rfl) (by kernel_rfl) (fun _ _ _ h => h) (Or.inl ⟨by rfl, ?_⟩) hHeld ?_
        rotate_left
        · (intro wx hSx; obtain ⟨hs1, hs2, _⟩ := hSx; go_simp; (try with_reducible rfl))
        (try simp only [Act.put, List.getElem_toArray, List.getElem_cons_succ, List.getElem_cons_zero, List.setIfInBounds_toArray, List.set_cons_succ, List.set_cons_zero])
        refine wpAnyH_take (i := 8) (v := ?_) rfl (by kernel_rfl) (by kernel_rfl) (by kernel_rfl) (fun _ _ _ h => h) (Or.inl ⟨by rfl, ?_⟩) hHeld ?_
        rotate_left
        · (intro wx hSx; obtain ⟨hs1, hs2, _⟩ := hSx; go_simp; (try with_reducible rfl))
        (try simp only [Act.put, List.getElem_toArray, List.getElem_cons_succ, List.getElem_cons_zero, List.setIfInBounds_toArray, List.set_cons_succ, List.set_cons_zero])
        refine wpAnyH_take (i := 9) (v := ?_) rfl (by kernel_rfl) (by kernel_rfl) (by kernel_rfl) (fun _ _ _ h => h) (Or.inl ⟨by rfl, ?_⟩) hHeld ?_
        rotate_left
        · (intro wx hSx; obtain ⟨hs1, hs2, _⟩ := hSx; go_simp; (try with_reducible rfl))
        (try simp only [Act.put, List.getElem_toArray, List.getElem_cons_succ, List.getElem_cons_zero, List.setIfInBounds_toArray, List.set_cons_succ, List.set_cons_zero])
        refine wpAnyH_take (i := 10) (v := ?_) rfl (by kernel_rfl) (by kernel_rfl) (by kernel_rfl) (fun _ _ _ h => h) (Or.inl ⟨by rfl, ?_⟩) hHeld ?_
        rotate_left
        · (intro wx hSx; obtain ⟨hs1, hs2, _⟩ := hSx; go_simp; (try with_reducible rfl))
        (try simp only [Act.put, List.getElem_toArray, List.getElem_cons_succ, List.getElem_cons_zero, List.setIfInBounds_toArray, List.set_cons_succ, List.set_cons_zero])
        refine wpAnyH_take (i := 11) (v := ?_) rfl (by kernel_rfl) (by kernel_rfl) (by kernel_rfl) (fun _ _ _ h => h) (Or.inl ⟨by rfl, ?_⟩) hHeld ?_
        rotate_left
        · (intro wx hSx; obtain ⟨hs1, hs2, _⟩ := hSx; go_simp; (try with_reducible rfl))
        (try simp only [Act.put, List.getElem_toArray, List.getElem_cons_succ, List.getElem_cons_zero, List.setIfInBounds_toArray, List.set_cons_succ, List.set_cons_zero])
        refine wpAnyH_take (i := 13) (v := ?_) rfl (by kernel_rfl) (by kernel_rfl) (by kernel_rfl) (fun _ _ _ h => h) (Or.inl ⟨by rfl, ?_⟩) hHeld ?_
        rotate_left
        · (intro wx hSx; obtain ⟨hs1, hs2, _⟩ := hSx; go_simp; (try with_reducible rfl))
        (try simp only [Act.put, List.getElem_toArray, List.getElem_cons_succ, List.getElem_cons_zero, List.setIfInBounds_toArray, List.set_cons_succ, List.set_cons_zero])
        refine wpAnyH_take (i := 14) (v := ?_) rfl (by kernel_rfl) (by kernel_rfl) (by kernel_rfl) (fun _ _ _ h => h) (Or.inl ⟨by rfl, ?_⟩) hHeld ?_
        rotate_left
        · (intro wx hSx; obtain ⟨hs1, hs2, _⟩ := hSx; go_simp; (try with_reducible rfl))
        (try simp only [Act.put, List.getElem_toArray, List.getElem_cons_succ, List.getElem_cons_zero, List.setIfInBounds_toArray, List.set_cons_succ, List.set_cons_zero])
        refine wpAnyH_take (i := 15) (v := ?_) rfl (by kernel_rfl) (by kernel_rfl) (by kernel_rfl) (fun _ _ _ h => h) (Or.inl ⟨by rfl, ?_⟩) hHeld ?_
        rotate_left
        · (intro wx hSx; obtain ⟨hs1, hs2, _⟩ := hSx; go_simp; (try with_reducible rfl))
        (try simp only [Act.put, List.getElem_toArray, List.getElem_cons_succ, List.getElem_cons_zero, List.setIfInBounds_toArray, List.set_cons_succ, List.set_cons_zero])
        refine wpAnyH_take (i := 16) (v := ?_) rfl (by kernel_rfl) (by kernel_rfl) (by kernel_rfl) (fun _ _ _ h => h) (Or.inl ⟨by rfl, ?_⟩) hHeld ?_
        rotate_left
        · (intro wx hSx; obtain ⟨hs1, hs2, _⟩ := hSx; go_simp; (try with_reducible rfl))
        (try simp only [Act.put, List.getElem_toArray, List.getElem_cons_succ, List.getElem_cons_zero, List.setIfInBounds_toArray, List.set_cons_succ, List.set_cons_zero])
        refine wpAnyH_take (i := 17) (v := ?_) rfl (by kernel_rfl) (by kernel_rfl) (by kernel_rfl) (fun _ _ _ h => h) (Or.inl ⟨by rfl, ?_⟩) hHeld ?_
        rotate_left
        · (intro wx hSx; obtain ⟨hs1, hs2, _⟩ := hSx; go_simp; (try with_reducible rfl))
        (try simp only [Act.put, List.getElem_toArray, List.getElem_cons_succ, List.getElem_cons_zero, List.setIfInBounds_toArray, List.set_cons_succ, List.set_cons_zero])
        refine wpAnyH_take (i := 18) (v := ?_) rfl (by kernel_rfl) (by kernel_rfl) (by kernel_rfl) (fun _ _ _ h => h) (Or.inl ⟨by rfl, ?_⟩) hHeld ?_
        rotate_left
        · (intro wx hSx; obtain ⟨hs1, hs2, _⟩ := hSx; go_simp; (try with_reducible rfl))
        (try simp only [Act.put, List.getElem_toArray, List.getElem_cons_succ, List.getElem_cons_zero, List.setIfInBounds_toArray, List.set_cons_succ, List.set_cons_zero])
        refine wpAnyH_take (i := 19) (v := ?_) rfl (by kernel_rfl) (by kernel_rfl) (by kernel_rfl) (fun _ _ _ h => h) (Or.inl ⟨by rfl, ?_⟩) hHeld ?_
        rotate_left
        · (intro wx hSx; obtain ⟨hs1, hs2, _⟩ := hSx; go_simp; (try with_reducible rfl))
        (try simp only [Act.put, List.getElem_toArray, List.getElem_cons_succ, List.getElem_cons_zero, List.setIfInBounds_toArray, List.set_cons_succ, List.set_cons_zero])
        refine wpAnyH_ready (rs := [12]) (by kernel_rfl) (by simp) ?_
        refine AllReadyH.cons rfl (fun K hK => ?_) AllReadyH.nil
        rw [if_pos (by rfl)]
        go_simp
        refine (HCY.out _ (Below.refl _ _).drew).mono ?_
        rintro e w14 ⟨rfl, hb14⟩
        (try simp only [])
        refine hK.out _ _ (HS1.out w14 hb14) (fun hHeld => ?_)
        clear hK K
        (try simp only [Act.put, List.getElem_toArray, List.getElem_cons_succ, List.getElem_cons_zero, List.setIfInBounds_toArray, List.set_cons_succ, List.set_cons_zero])
        refine wpAnyH_take (i := 20) (v := ?_) rfl (by kernel_rfl) (by kernel_rfl) (by kernel_rfl) (fun _ _ _ h => h) (Or.inl ⟨by rfl, ?_⟩) hHeld ?_
        rotate_left
        · (intro wx hSx; obtain ⟨hs1, hs2, _⟩ := hSx; go_simp; (try with_reducible rfl))
        (try simp only [Act.put, List.getElem_toArray, List.getElem_cons_succ, List.getElem_cons_zero, List.setIfInBounds_toArray, List.set_cons_succ, List.set_cons_zero])
        refine wpAnyH_take (i := 21) (v := ?_) rfl (by kernel_rfl) (by kernel_rfl) (by kernel_rfl) (fun _ _ _ h => h) (Or.inl ⟨by rfl, ?_⟩) hHeld ?_
        rotate_left
        · (intro wx hSx; obtain ⟨hs1, hs2, _⟩ := hSx; go_simp; (try with_reducible rfl))
        (try simp only [Act.put, List.getElem_toArray, List.getElem_cons_succ, List.getElem_cons_zero, List.setIfInBounds_toArray, List.set_cons_succ, List.set_cons_zero])
        refine wpAnyH_take (i := 22) (v := ?_) rfl (by kernel_rfl) (by kernel_rfl) (by kernel_rfl) (fun _ _ _ h => h) (Or.inl ⟨by rfl, ?_⟩) hHeld ?_
        rotate_left
        · (intro wx hSx; obtain ⟨hs1, hs2, _⟩ := hSx; go_simp; (try with_reducible rfl))
        (try simp only [Act.put, List.getElem_toArray, List.getElem_cons_succ, List.getElem_cons_zero, List.setIfInBounds_toArray, List.set_cons_succ, List.set_cons_zero])
        refine wpAnyH_take (i := 23) (v := ?_) rfl (by kernel_rfl) (by kernel_rfl) (by kernel_rfl) (fun _ _ _ h => h) (Or.inl ⟨by rfl, ?_⟩) hHeld ?_
        rotate_left
        · (intro wx hSx; obtain ⟨hs1, hs2, _⟩ := hSx; go_simp; (try with_reducible rfl))
        (try simp only [Act.put, List.getElem_toArray, List.getElem_cons_succ, List.getElem_cons_zero, List.setIfInBounds_toArray, List.set_cons_succ, List.set_cons_zero])
        refine wpAnyH_take (i := 24) (v := ?_) rfl (by kernel_rfl) (by kernel_rfl) (by kernel_rfl) (fun _ _ _ h => h) (Or.inl ⟨by rfl, ?_⟩) hHeld ?_
        rotate_left
        · (intro wx hSx; obtain ⟨hs1, hs2, _⟩ := hSx; go_simp; (try with_reducible rfl))
        (try simp only [Act.put, List.getElem_toArray, List.getElem_cons_succ, List.getElem_cons_zero, List.setIfInBounds_toArray, List.set_cons_succ, List.set_cons_zero])
        refine wpAnyH_take (i := 25) (v := ?_) rfl (by kernel_rfl) (by kernel_rfl) (by kernel_rfl) (fun _ _ _ h => h) (Or.inl ⟨by rfl, ?_⟩) hHeld ?_
        rotate_left
        · (intro wx hSx; obtain ⟨hs1, hs2, _⟩ := hSx; go_simp; (try with_reducible rfl))
        (try simp only [Act.put, List.getElem_toArray, List.getElem_cons_succ, List.getElem_cons_zero, List.setIfInBounds_toArray, List.set_cons_succ, List.set_cons_zero])
        refine wpAnyH_take (i := 26) (v := ?_) rfl (by kernel_rfl) (by kernel_rfl) (by kernel_rfl) (fun _ _ _ h => h) (Or.inl ⟨by rfl, ?_⟩) hHeld ?_
        rotate_left
        · (intro wx hSx; obtain ⟨hs1, hs2, _⟩ := hSx; go_simp; (try with_reducible rfl))
        (try simp only [Act.put, List.getElem_toArray, List.getElem_cons_succ, List.getElem_cons_zero, List.setIfInBounds_toArray, List.set_cons_succ, List.set_cons_zero])
        refine wpAnyH_take (i := 27) (v := undef) rfl (by kernel_rfl) (by kernel_rfl) (by kernel_rfl) (fun _ _ _ h => h) (Or.inr ⟨by rfl, rfl⟩) hHeld ?_
        (try simp only [Act.put, List.getElem_toArray, List.getElem_cons_succ, List.getElem_cons_zero, List.setIfInBounds_toArray, List.set_cons_succ, List.set_cons_zero])
        refine wpAnyH_take (i := 28) (v := undef) rfl (by kernel_rfl) (by kernel_rfl) (by kernel_rfl) (fun _ _ _ h => h) (Or.inr ⟨by rfl, rfl⟩) hHeld ?_
        (try simp only [Act.put, List.getElem_toArray, List.getElem_cons_succ, List.getElem_cons_zero, List.setIfInBounds_toArray, List.set_cons_succ, List.set_cons_zero])
        refine wpAnyH_take (i := 29) (v := undef) rfl (by kernel_rfl) (by kernel_rfl) (by kernel_rfl) (fun _ _ _ h => h) (Or.inr ⟨by rfl, rfl⟩) hHeld ?_
        (try simp only [Act.put, List.getElem_toArray, List.getElem_cons_succ, List.getElem_cons_zero, List.setIfInBounds_toArray, List.set_cons_succ, List.set_cons_zero])
        refine wpAnyH_take (i := 30) (v := undef) rfl (by kernel_rfl) (by kernel_rfl) (by kernel_rfl) (fun _ _ _ h => h) (Or.inr ⟨by rfl, rfl⟩) hHeld ?_
        (try simp only [Act.put, List.getElem_toArray, List.getElem_cons_succ, List.getElem_cons_zero, List.setIfInBounds_toArray, List.set_cons_succ, List.set_cons_zero])
        refine wpAnyH_take (i := 31) (v := undef) rfl (by kernel_rfl) (by kernel_rfl) (by kernel_rfl) (fun _ _ _ h => h) (Or.inr ⟨by rfl, rfl⟩) hHeld ?_
        (try simp only [Act.put, List.getElem_toArray, List.getElem_cons_succ, List.getElem_cons_zero, List.setIfInBounds_toArray, List.set_cons_succ, List.set_cons_zero])
        refine wpAnyH_take (i := 32) (v := undef) rfl (by kernel_rfl) (by kernel_rfl) (by kernel_rfl) (fun _ _ _ h => h) (Or.inr ⟨by rfl, rfl⟩) hHeld ?_
        (try simp only [Act.put, List.getElem_toArray, List.getElem_cons_succ, List.getElem_cons_zero, List.setIfInBounds_toArray, List.set_cons_succ, List.set_cons_zero])
        refine wpAnyH_take (i := 33) (v := undef) rfl (by kernel_rfl) (by kernel_rfl) (by kernel_rfl) (fun _ _ _ h => h) (Or.inr ⟨by rfl, rfl⟩) hHeld ?_
        (try simp only [Act.put, List.getElem_toArray, List.getElem_cons_succ, List.getElem_cons_zero, List.setIfInBounds_toArray, List.set_cons_succ, List.set_cons_zero])
        refine wpAnyH_take (i := 34) (v := ?_) rfl (by kernel_rfl) (by kernel_rfl) (by kernel_rfl) (fun _ _ _ h => h) (Or.inl ⟨by rfl, ?_⟩) hHeld ?_
        rotate_left
        · (intro wx hSx; obtain ⟨hs1, hs2, _⟩ := hSx; go_simp; (try with_reducible rfl))
        (try simp only [Act.put, List.getElem_toArray, List.getElem_cons_succ, List.getElem_cons_zero, List.setIfInBounds_toArray, List.set_cons_succ, List.set_cons_zero])
        refine wpAnyH_take (i := 35) (v := ?_) rfl (by kernel_rfl) (by kernel_rfl) (by kernel_rfl) (fun _ _ _ h => h) (Or.inl ⟨by rfl, ?_⟩) hHeld ?_
        rotate_left
        · (intro wx hSx; obtain ⟨hs1, hs2, _⟩ := hSx; go_simp; (try with_reducible rfl))
        (try simp only [Act.put, List.getElem_toArray, List.getElem_cons_succ, List.getElem_cons_zero, List.setIfInBounds_toArray, List.set_cons_succ, List.set_cons_zero])
        refine wpAnyH_take (i := 36) (v := ?_) rfl (by kernel_rfl) (by kernel_rfl) (by kernel_rfl) (fun _ _ _ h => h) (Or.inl ⟨by rfl, ?_⟩) hHeld ?_
        rotate_left
        · (intro wx hSx; obtain ⟨hs1, hs2, _⟩ := hSx; go_simp; (try with_reducible rfl))
        (try simp only [Act.put, List.getElem_toArray, List.getElem_cons_succ, List.getElem_cons_zero, List.setIfInBounds_toArray, List.set_cons_succ, List.set_cons_zero])
        refine wpAnyH_take (i := 37) (v := ?_) rfl (by kernel_rfl) (by kernel_rfl) (by kernel_rfl) (fun _ _ _ h => h) (Or.inl ⟨by rfl, ?_⟩) hHeld ?_
        rotate_left
        · (intro wx hSx; obtain ⟨hs1, hs2, _⟩ := hSx; go_simp; (try with_reducible rfl))
        (try simp only [Act.put, List.getElem_toArray, List.getElem_cons_succ, List.getElem_cons_zero, List.setIfInBounds_toArray, List.set_cons_succ, List.set_cons_zero])
        refine wpAnyH_done (by kernel_rfl) ?_ _
        have HB14 := Lib.hid (B13.out.drew.trans (hb14.mono B13.out.size))
        clear hb14 hHeld hS0
        go_wp2
        go_ret
        exact ⟨rfl, HB14.out⟩
      | cons y r3 =>
        obtain ⟨yb, yo, rfl, hyb, c1, _⟩ := HY13.out.head
        have hge : decide (t.2 ≤ y.1) = true := decide_eq_true (k8 y r3 rfl)
        have hl0 : (((r3.length : Int) + 1) == 0) = false := by simp; omega
        have hS0 : HeldP w7.heap.size t yb yo (some y.1) w13.drew := ⟨q1, q2, fun z hz => by cases hz; exact c1⟩
        have hS1 : ∀ w1, Below w13.drew.heap.size w13.drew w1 → HeldP w7.heap.size t yb yo (some y.1) w1 := fun w1 h => ⟨(h.cell HG.out.2).trans q1, (h.cell HG.out.2).trans q2, fun z hz => by cases hz; exact (h.cell (p := ⟨yb, yo, none⟩) hyb).trans c1⟩
        have HS1 := Lib.hid hS1
        clear hdd hss k1 k2 k3 k4 k5 k6 k7 k8 k9 hcl hq0 hq1 HY13 hS1 hr2 hr3
        simp only [List.length_cons] at HCY
        go_wp2
        clear q1 q2 c1
        refine wp_region_held_drew (S := HeldP w7.heap.size t yb yo (some y.1)) (by kernel_rfl) hS0 (fun hHeld => ?_)
        refine wpAnyH_take (i := 0) (v := ?_) rfl (by kernel_rfl) (by kernel_rfl) (by kernel_rfl) (fun _ _ _ h => h) (Or.inl ⟨by rfl, ?_⟩) hHeld ?_
        rotate_left
        · (intro wx hSx; obtain ⟨hs1, hs2, hs3⟩ := hSx; have hs4 := hs3 _ rfl; clear hs3; go_simp; (try with_reducible rfl))
        (try simp only [Act.put, List.getElem_toArray, List.getElem_cons_zero, List.setIfInBounds_toArray, List.set_cons_succ, List.set_cons_zero])
        refine wpAnyH_take (i := 1) (v := ?_) rfl (by kernel_rfl) (by kernel_rfl) (by kernel_rfl) (fun _ _ _ h => h) (Or.inl ⟨by rfl, ?_⟩) hHeld ?_
        rotate_left
        · (intro wx hSx; obtain ⟨hs1, hs2, hs3⟩ := hSx; have hs4 := hs3 _ rfl; clear hs3; go_simp; (try with_reducible rfl))
        (try simp only [Act.put, List.getElem_toArray, List.getElem_cons_succ, List.getElem_cons_zero, List.setIfInBounds_toArray, List.set_cons_succ, List.set_cons_zero])
        refine wpAnyH_take (i := 2) (v := ?_) rfl (by kernel_rfl) (by kernel_rfl) (by kernel_rfl) (fun _ _ _ h => h) (Or.inl ⟨by rfl, ?_⟩) hHeld ?_
        rotate_left
        · (intro wx hSx; obtain ⟨hs1, hs2, hs3⟩ := hSx; have hs4 := hs3 _ rfl; clear hs3; go_simp; (try with_reducible rfl))
        (try simp only [Act.put, List.getElem_toArray, List.getElem_cons_succ, List.getElem_cons_zero, List.setIfInBounds_toArray, List.set_cons_succ, List.set_cons_zero])
        refine wpAnyH_take (i := 3) (v := ?_) rfl (by kernel_rfl) (by kernel_rfl) (by kernel_rfl) (fun _ _ _ h => h) (Or.inl ⟨by rfl, ?_⟩) hHeld ?_
        rotate_left
        · (intro wx hSx; obtain ⟨hs1, hs2, hs3⟩ := hSx; have hs4 := hs3 _ rfl; clear hs3; go_simp; (try with_reducible rfl))
        (try simp only [Act.put, List.getElem_toArray, List.getElem_cons_succ, List.getElem_cons_zero, List.setIfInBounds_toArray, List.set_cons_succ, List.set_cons_zero])
        refine wpAnyH_take (i := 4) (v := ?_) rfl (by kernel_rfl) (by kernel_rfl) (by kernel_rfl) (fun _ _ _ h => h) (Or.inl ⟨by rfl, ?_⟩) hHeld ?_
        rotate_left
        · (intro wx hSx; obtain ⟨hs1, hs2, hs3⟩ := hSx; have hs4 := hs3 _ rfl; clear hs3; go_simp; (try with_reducible rfl))
        (try simp only [Act.put, List.getElem_toArray, List.getElem_cons_succ, List.getElem_cons_zero, List.setIfInBounds_toArray, List.set_cons_succ, List.set_cons_zero])
        refine wpAnyH_take (i := 5) (v := ?_) rfl (by kernel_rfl) (by kernel_rfl) (by kernel_rfl) (fun _ _ _ h => h) (Or.inl ⟨by rfl, ?_⟩) hHeld ?_
        rotate_left
        · (intro wx hSx; obtain ⟨hs1, hs2, hs3⟩ := hSx; have hs4 := hs3 _ rfl; clear hs3; go_simp; (try with_reducible rfl))
        (try simp only [Act.put, List.getElem_toArray, List.getElem_cons_succ, List.getElem_cons_zero, List.setIfInBounds_toArray, List.set_cons_succ, List.set_cons_zero])
        refine wpAnyH_take (i := 6) (v := ?_) rfl (by kernel_rfl) (by kernel_rfl) (by kernel_rfl) (fun _ _ _ h => h) (Or.inl ⟨by rfl, ?_⟩) hHeld ?_
        rotate_left
        · (intro wx hSx; obtain ⟨hs1, hs2, hs3⟩ := hSx; have hs4 := hs3 _ rfl; clear hs3; go_simp; (try with_reducible rfl))
        (try simp only [Act.put, List.getElem_toArray, List.getElem_cons_succ, List.getElem_cons_zero, List.setIfInBounds_toArray, List.set_cons_succ, List.set_cons_zero])
        refine wpAnyH_take (i := 7) (v := ?_) rfl (by kernel_rfl) (by kernel_rfl) (by kernel_rfl) (fun _ _ _ h => h) (Or.inl ⟨by rfl, ?_⟩) hHeld ?_
        rotate_left
        · (intro wx hSx; obtain ⟨hs1, hs2, hs3⟩ := hSx; have hs4 := hs3 _ rfl; clear hs3; go_simp; (try with_reducible rfl))
        (try simp only [Act.put, List.getElem_toArray, List.getElem_cons_succ, List.getElem_cons_zero, List.setIfInBounds_toArray, List.set_cons_succ, List.set_cons_zero])
        refine wpAnyH_take (i := 8) (v := ?_) rfl (by kernel_rfl) (by kernel_rfl) (by kernel_rfl) (fun _ _ _ h => h) (Or.inl ⟨by rfl, ?_⟩) hHeld ?_
        rotate_left
        · (intro wx hSx; obtain ⟨hs1, hs2, hs3⟩ := hSx; have hs4 := hs3 _ rfl; clear hs3; go_simp; (try with_reducible rfl))
        (try simp only [Act.put, List.getElem_toArray, List.getElem_cons_succ, List.getElem_cons_zero, List.setIfInBounds_toArray, List.set_cons_succ, List.set_cons_zero])
        refine wpAnyH_take (i := 9) (v := ?_) rfl (by kernel_rfl) (by kernel_rfl) (by kernel_rfl) (fun _ _ _ h => h) (Or.inl ⟨by rfl, ?_⟩) hHeld ?_
        rotate_left
        · (intro wx hSx; obtain ⟨hs1, hs2, hs3⟩ := hSx; have hs4 := hs3 _ rfl; clear hs3; go_simp; (try with_reducible rfl))
        (try simp only [Act.put, List.getElem_toArray, List.getElem_cons_succ, List.getElem_cons_zero, List.setIfInBounds_toArray, List.set_cons_succ, List.set_cons_zero])
        refine wpAnyH_take (i := 10) (v := ?_) rfl (by kernel_rfl) (by kernel_rfl) (by kernel_rfl) (fun _ _ _ h => h) (Or.inl ⟨by rfl, ?_⟩) hHeld ?_
        rotate_left
        · (intro wx hSx; obtain ⟨hs1, hs2, hs3⟩ := hSx; have hs4 := hs3 _ rfl; clear hs3; go_simp; (try with_reducible rfl))
        (try simp only [Act.put, List.getElem_toArray, List.getElem_cons_succ, List.getElem_cons_zero, List.setIfInBounds_toArray, List.set_cons_succ, List.set_cons_zero])
        refine wpAnyH_take (i := 11) (v := ?_) rfl (by kernel_rfl) (by kernel_rfl) (by kernel_rfl) (fun _ _ _ h => h) (Or.inl ⟨by rfl, ?_⟩) hHeld ?_
        rotate_left
        · (intro wx hSx; obtain ⟨hs1, hs2, hs3⟩ := hSx; have hs4 := hs3 _ rfl; clear hs3; go_simp; (try with_reducible rfl))
        (try simp only [Act.put, List.getElem_toArray, List.getElem_cons_succ, List.getElem_cons_zero, List.setIfInBounds_toArray, List.set_cons_succ, List.set_cons_zero])
        refine wpAnyH_take (i := 13) (v := ?_) rfl (by kernel_rfl) (by kernel_rfl) (by kernel_rfl) (fun _ _ _ h => h) (Or.inl ⟨by rfl, ?_⟩) hHeld ?_
        rotate_left
        · (intro wx hSx; obtain ⟨hs1, hs2, hs3⟩ := hSx; have hs4 := hs3 _ rfl; clear hs3; go_simp; (try with_reducible rfl))
        (try simp only [Act.put, List.getElem_toArray, List.getElem_cons_succ, List.getElem_cons_zero, List.setIfInBounds_toArray, List.set_cons_succ, List.set_cons_zero])
        refine wpAnyH_take (i := 14) (v := ?_) rfl (by kernel_rfl) (by kernel_rfl) (by kernel_rfl) (fun _ _ _ h => h) (Or.inl ⟨by rfl, ?_⟩) hHeld ?_
        rotate_left
        · (intro wx hSx; obtain ⟨hs1, hs2, hs3⟩ := hSx; have hs4 := hs3 _ rfl; clear hs3; go_simp; (try with_reducible rfl))
        (try simp only [Act.put, List.getElem_toArray, List.getElem_cons_succ, List.getElem_cons_zero, List.setIfInBounds_toArray, List.set_cons_succ, List.set_cons_zero])
        refine wpAnyH_take (i := 15) (v := ?_) rfl (by kernel_rfl) (by kernel_rfl) (by kernel_rfl) (fun _ _ _ h => h) (Or.inl ⟨by rfl, ?_⟩) hHeld ?_
        rotate_left
        · (intro wx hSx; obtain ⟨hs1, hs2, hs3⟩ := hSx; have hs4 := hs3 _ rfl; clear hs3; go_simp; (try with_reducible rfl))
        (try simp only [Act.put, List.getElem_toArray, List.getElem_cons_succ, List.getElem_cons_zero, List.setIfInBounds_toArray, List.set_cons_succ, List.set_cons_zero])
        refine wpAnyH_take (i := 16) (v := ?_) rfl (by kernel_rfl) (by kernel_rfl) (by kernel_rfl) (fun _ _ _ h => h) (Or.inl ⟨by rfl, ?_⟩) hHeld ?_
        rotate_left
        · (intro wx hSx; obtain ⟨hs1, hs2, hs3⟩ := hSx; have hs4 := hs3 _ rfl; clear hs3; go_simp; (try with_reducible rfl))
        (try simp only [Act.put, List.getElem_toArray, List.getElem_cons_succ, List.getElem_cons_zero, List.setIfInBounds_toArray, List.set_cons_succ, List.set_cons_zero])
        refine wpAnyH_take (i := 17) (v := ?_) rfl (by kernel_rfl) (by kernel_rfl) (by kernel_rfl) (fun _ _ _ h => h) (Or.inl ⟨by rfl, ?_⟩) hHeld ?_
        rotate_left
        · (intro wx hSx; obtain ⟨hs1, hs2, hs3⟩ := hSx; have hs4 := hs3 _ rfl; clear hs3; go_simp; (try with_reducible rfl))
        (try simp only [Act.put, List.getElem_toArray, List.getElem_cons_succ, List.getElem_cons_zero, List.setIfInBounds_toArray, List.set_cons_succ, List.set_cons_zero])
        refine wpAnyH_take (i := 18) (v := ?_) rfl (by kernel_rfl) (by kernel_rfl) (by kernel_rfl) (fun _ _ _ h => h) (Or.inl ⟨by rfl, ?_⟩) hHeld ?_
        rotate_left
        · (intro wx hSx; obtain ⟨hs1, hs2, hs3⟩ := hSx; have hs4 := hs3 _ rfl; clear hs3; go_simp; (try with_reducible rfl))
        (try simp only [Act.put, List.getElem_toArray, List.getElem_cons_succ, List.getElem_cons_zero, List.setIfInBounds_toArray, List.set_cons_succ, List.set_cons_zero])
        refine wpAnyH_take (i := 19) (v := ?_) rfl (by kernel_rfl) (by kernel_rfl) (by kernel_rfl) (fun _ _ _ h => h) (Or.inl ⟨by rfl, ?_⟩) hHeld ?_
        rotate_left
        · (intro wx hSx; obtain ⟨hs1, hs2, hs3⟩ := hSx; have hs4 := hs3 _ rfl; clear hs3; go_simp; (try with_reducible rfl))
        (try simp only [Act.put, List.getElem_toArray, List.getElem_cons_succ, List.getElem_cons_zero, List.setIfInBounds_toArray, List.set_cons_succ, List.set_cons_zero])
        refine wpAnyH_ready (rs := [12]) (by kernel_rfl) (by simp) ?_
        refine AllReadyH.cons rfl (fun K hK => ?_) AllReadyH.nil
        rw [if_pos (by rfl)]
        go_simp
        refine (HCY.out _ (Below.refl _ _).drew).mono ?_
        rintro e w14 ⟨rfl, hb14⟩
        (try simp only [])
        refine hK.out _ _ (HS1.out w14 hb14) (fun hHeld => ?_)
        clear hK K
        (try simp only [Act.put, List.getElem_toArray, List.getElem_cons_succ, List.getElem_cons_zero, List.setIfInBounds_toArray, List.set_cons_succ, List.set_cons_zero])
        refine wpAnyH_take (i := 20) (v := ?_) rfl (by kernel_rfl) (by kernel_rfl) (by kernel_rfl) (fun _ _ _ h => h) (Or.inl ⟨by rfl, ?_⟩) hHeld ?_
        rotate_left
        · (intro wx hSx; obtain ⟨hs1, hs2, hs3⟩ := hSx; have hs4 := hs3 _ rfl; clear hs3; go_simp; (try with_reducible rfl))
        (try simp only [Act.put, List.getElem_toArray, List.getElem_cons_succ, List.getElem_cons_zero, List.setIfInBounds_toArray, List.set_cons_succ, List.set_cons_zero])
        refine wpAnyH_take (i := 21) (v := ?_) rfl (by kernel_rfl) (by kernel_rfl) (by kernel_rfl) (fun _ _ _ h => h) (Or.inl ⟨by rfl, ?_⟩) hHeld ?_
        rotate_left
        · (intro wx hSx; obtain ⟨hs1, hs2, hs3⟩ := hSx; have hs4 := hs3 _ rfl; clear hs3; go_simp; (try with_reducible rfl))
        (try simp only [Act.put, List.getElem_toArray, List.getElem_cons_succ, List.getElem_cons_zero, List.setIfInBounds_toArray, List.set_cons_succ, List.set_cons_zero])
        refine wpAnyH_take (i := 22) (v := ?_) rfl (by kernel_rfl) (by kernel_rfl) (by kernel_rfl) (fun _ _ _ h => h) (Or.inl ⟨by rfl, ?_⟩) hHeld ?_
        rotate_left
        · (intro wx hSx; obtain ⟨hs1, hs2, hs3⟩ := hSx; have hs4 := hs3 _ rfl; clear hs3; go_simp; (try with_reducible rfl))
        (try simp only [Act.put, List.getElem_toArray, List.getElem_cons_succ, List.getElem_cons_zero, List.setIfInBounds_toArray, List.set_cons_succ, List.set_cons_zero])
        refine wpAnyH_take (i := 23) (v := ?_) rfl (by kernel_rfl) (by kernel_rfl) (by kernel_rfl) (fun _ _ _ h => h) (Or.inl ⟨by rfl, ?_⟩) hHeld ?_
        rotate_left
        · (intro wx hSx; obtain ⟨hs1, hs2, hs3⟩ := hSx; have hs4 := hs3 _ rfl; clear hs3; go_simp; (try with_reducible rfl))
        (try simp only [Act.put, List.getElem_toArray, List.getElem_cons_succ, List.getElem_cons_zero, List.setIfInBounds_toArray, List.set_cons_succ, List.set_cons_zero])
        refine wpAnyH_take (i := 24) (v := ?_) rfl (by kernel_rfl) (by kernel_rfl) (by kernel_rfl) (fun _ _ _ h => h) (Or.inl ⟨by rfl, ?_⟩) hHeld ?_
        rotate_left
        · (intro wx hSx; obtain ⟨hs1, hs2, hs3⟩ := hSx; have hs4 := hs3 _ rfl; clear hs3; go_simp; (try with_reducible rfl))
        (try simp only [Act.put, List.getElem_toArray, List.getElem_cons_succ, List.getElem_cons_zero, List.setIfInBounds_toArray, List.set_cons_succ, List.set_cons_zero])
        refine wpAnyH_take (i := 25) (v := ?_) rfl (by kernel_rfl) (by kernel_rfl) (by kernel_rfl) (fun _ _ _ h => h) (Or.inl ⟨by rfl, ?_⟩) hHeld ?_
        rotate_left
        · (intro wx hSx; obtain ⟨hs1, hs2, hs3⟩ := hSx; have hs4 := hs3 _ rfl; clear hs3; go_simp; (try with_reducible rfl))
        (try simp only [Act.put, List.getElem_toArray, List.getElem_cons_succ, List.getElem_cons_zero, List.setIfInBounds_toArray, List.set_cons_succ, List.set_cons_zero])
        refine wpAnyH_take (i := 26) (v := ?_) rfl (by kernel_rfl) (by kernel_rfl) (by kernel_rfl) (fun _ _ _ h => h) (Or.inl ⟨by rfl, ?_⟩) hHeld ?_
        rotate_left
        · (intro wx hSx; obtain ⟨hs1, hs2, hs3⟩ := hSx; have hs4 := hs3 _ rfl; clear hs3; go_simp; (try with_reducible rfl))
        (try simp only [Act.put, List.getElem_toArray, List.getElem_cons_succ, List.getElem_cons_zero, List.setIfInBounds_toArray, List.set_cons_succ, List.set_cons_zero])
        refine wpAnyH_take (i := 27) (v := ?_) rfl (by kernel_rfl) (by kernel_rfl) (by kernel_rfl) (fun _ _ _ h => h) (Or.inl ⟨by rfl, ?_⟩) hHeld ?_
        rotate_left
        · (intro wx hSx; obtain ⟨hs1, hs2, hs3⟩ := hSx; have hs4 := hs3 _ rfl; clear hs3; go_simp; (try with_reducible rfl))
        (try simp only [Act.put, List.getElem_toArray, List.getElem_cons_succ, List.getElem_cons_zero, List.setIfInBounds_toArray, List.set_cons_succ, List.set_cons_zero])
        refine wpAnyH_take (i := 28) (v := ?_) rfl (by kernel_rfl) (by kernel_rfl) (by kernel_rfl) (fun _ _ _ h => h) (Or.inl ⟨by rfl, ?_⟩) hHeld ?_
        rotate_left
        · (intro wx hSx; obtain ⟨hs1, hs2, hs3⟩ := hSx; have hs4 := hs3 _ rfl; clear hs3; go_simp; (try with_reducible rfl))
        (try simp only [Act.put, List.getElem_toArray, List.getElem_cons_succ, List.getElem_cons_zero, List.setIfInBounds_toArray, List.set_cons_succ, List.set_cons_zero])
        refine wpAnyH_take (i := 29) (v := ?_) rfl (by kernel_rfl) (by kernel_rfl) (by kernel_rfl) (fun _ _ _ h => h) (Or.inl ⟨by rfl, ?_⟩) hHeld ?_
        rotate_left
        · (intro wx hSx; obtain ⟨hs1, hs2, hs3⟩ := hSx; have hs4 := hs3 _ rfl; clear hs3; go_simp; (try with_reducible rfl))
        (try simp only [Act.put, List.getElem_toArray, List.getElem_cons_succ, List.getElem_cons_zero, List.setIfInBounds_toArray, List.set_cons_succ, List.set_cons_zero])
        refine wpAnyH_take (i := 30) (v := ?_) rfl (by kernel_rfl) (by kernel_rfl) (by kernel_rfl) (fun _ _ _ h => h) (Or.inl ⟨by rfl, ?_⟩) hHeld ?_
        rotate_left
        · (intro wx hSx; obtain ⟨hs1, hs2, hs3⟩ := hSx; have hs4 := hs3 _ rfl; clear hs3; go_simp; (try with_reducible rfl))
        (try simp only [Act.put, List.getElem_toArray, List.getElem_cons_succ, List.getElem_cons_zero, List.setIfInBounds_toArray, List.set_cons_succ, List.set_cons_zero])
        refine wpAnyH_take (i := 31) (v := ?_) rfl (by kernel_rfl) (by kernel_rfl) (by kernel_rfl) (fun _ _ _ h => h) (Or.inl ⟨by rfl, ?_⟩) hHeld ?_
        rotate_left
        · (intro wx hSx; obtain ⟨hs1, hs2, hs3⟩ := hSx; have hs4 := hs3 _ rfl; clear hs3; go_simp; (try with_reducible rfl))
        (try simp only [Act.put, List.getElem_toArray, List.getElem_cons_succ, List.getElem_cons_zero, List.setIfInBounds_toArray, List.set_cons_succ, List.set_cons_zero])
        refine wpAnyH_take (i := 32) (v := ?_) rfl (by kernel_rfl) (by kernel_rfl) (by kernel_rfl) (fun _ _ _ h => h) (Or.inl ⟨by rfl, ?_⟩) hHeld ?_
        rotate_left
        · (intro wx hSx; obtain ⟨hs1, hs2, hs3⟩ := hSx; have hs4 := hs3 _ rfl; clear hs3; go_simp; (try with_reducible rfl))
        (try simp only [Act.put, List.getElem_toArray, List.getElem_cons_succ, List.getElem_cons_zero, List.setIfInBounds_toArray, List.set_cons_succ, List.set_cons_zero])
        refine wpAnyH_take (i := 33) (v := ?_) rfl (by kernel_rfl) (by kernel_rfl) (by kernel_rfl) (fun _ _ _ h => h) (Or.inl ⟨by rfl, ?_⟩) hHeld ?_
        rotate_left
        · (intro wx hSx; obtain ⟨hs1, hs2, hs3⟩ := hSx; have hs4 := hs3 _ rfl; clear hs3; go_simp; (try with_reducible rfl))
        (try simp only [Act.put, List.getElem_toArray, List.getElem_cons_succ, List.getElem_cons_zero, List.setIfInBounds_toArray, List.set_cons_succ, List.set_cons_zero])
        refine wpAnyH_take (i := 34) (v := ?_) rfl (by kernel_rfl) (by kernel_rfl) (by kernel_rfl) (fun _ _ _ h => h) (Or.inl ⟨by rfl, ?_⟩) hHeld ?_
        rotate_left
        · (intro wx hSx; obtain ⟨hs1, hs2, hs3⟩ := hSx; have hs4 := hs3 _ rfl; clear hs3; go_simp; (try with_reducible rfl))
        (try simp only [Act.put, List.getElem_toArray, List.getElem_cons_succ, List.getElem_cons_zero, List.setIfInBounds_toArray, List.set_cons_succ, List.set_cons_zero])
        refine wpAnyH_take (i := 35) (v := ?_) rfl (by kernel_rfl) (by kernel_rfl) (by kernel_rfl) (fun _ _ _ h => h) (Or.inl ⟨by rfl, ?_⟩) hHeld ?_
        rotate_left
        · (intro wx hSx; obtain ⟨hs1, hs2, hs3⟩ := hSx; have hs4 := hs3 _ rfl; clear hs3; go_simp; (try with_reducible rfl))
        (try simp only [Act.put, List.getElem_toArray, List.getElem_cons_succ, List.getElem_cons_zero, List.setIfInBounds_toArray, List.set_cons_succ, List.set_cons_zero])
        refine wpAnyH_take (i := 36) (v := ?_) rfl (by kernel_rfl) (by kernel_rfl) (by kernel_rfl) (fun _ _ _ h => h) (Or.inl ⟨by rfl, ?_⟩) hHeld ?_
        rotate_left
        · (intro wx hSx; obtain ⟨hs1, hs2, hs3⟩ := hSx; have hs4 := hs3 _ rfl; clear hs3; go_simp; (try with_reducible rfl))
        (try simp only [Act.put, List.getElem_toArray, List.getElem_cons_succ, List.getElem_cons_zero, List.setIfInBounds_toArray, List.set_cons_succ, List.set_cons_zero])
        refine wpAnyH_take (i := 37) (v := ?_) rfl (by kernel_rfl) (by kernel_rfl) (by kernel_rfl) (fun _ _ _ h => h) (Or.inl ⟨by rfl, ?_⟩) hHeld ?_
        rotate_left
        · (intro wx hSx; obtain ⟨hs1, hs2, hs3⟩ := hSx; have hs4 := hs3 _ rfl; clear hs3; go_simp; (try with_reducible rfl))
        (try simp only [Act.put, List.getElem_toArray, List.getElem_cons_succ, List.getElem_cons_zero, List.setIfInBounds_toArray, List.set_cons_succ, List.set_cons_zero])
        refine wpAnyH_done (by kernel_rfl) ?_ _
        have HB14 := Lib.hid (B13.out.drew.trans (hb14.mono B13.out.size))
        clear hb14 hHeld hS0
        go_wp2
        go_ret
        exact ⟨rfl, HB14.out⟩
end Go.Proofs.Ytjgabiklmloogaa
