/-
  The law on ranges, walked, where the library's table holds what the program's text lays there.
-/
import Derived.Test.YtjgabiklmloogaaDoorDraws3R
import Derived.Test.YtjgabiklmloogaaDoorBig
import Derived.Test.YtjgabiklmloogaaDoorLSpan
import Derived.Test.YtjgabiklmloogaaDoorIFmtRgs
import Derived.Test.YtjgabiklmloogaaDoorSFmtRgs
import Derived.Test.YtjgabiklmloogaaDoorIAdd
import Derived.Test.YtjgabiklmloogaaDoorIRem
import Derived.Test.YtjgabiklmloogaaDoorIRng
import Derived.Test.YtjgabiklmloogaaDoorIEq
import Derived.Test.YtjgabiklmloogaaDoorSRng7
import Derived.Test.YtjgabiklmloogaaDoorSRng3
import Derived.Deep.DeepCutAuto
import Derived.Deep.CutBlock
namespace Go.Proofs.YtjgabiklmloogaaDoor
open Go.RowKit Go.Deep Go.Proofs.YtjgabiklmloogaaDoor.Num

namespace Num
theorem addR_len5 (l : List Rg) : ∀ r, (addR r l).length ≤ l.length + 1 := by
  induction l with
  | nil => intro r; simp [addR]
  | cons x l ih =>
    intro r
    unfold addR
    split
    · have := ih r; simp; omega
    · split
      · simp
      · have := ih (min r.1 x.1, max r.2 x.2); simp; omega
theorem remR_len5 (r : Rg) (l : List Rg) : (remR r l).length ≤ 2 * l.length := by
  induction l with
  | nil => simp [remR]
  | cons x l ih =>
    have e : remR r (x :: l) = cutR r x ++ remR r l := rfl
    have h : (cutR r x).length ≤ 2 := by unfold cutR; split <;> split <;> simp
    rw [e, List.length_append, List.length_cons]
    omega
end Num
/-- The range y is a fine one and contains n. -/
def inY (y : Rg) (n : Int) : Prop := fineR y ∧ y.1 ≤ n ∧ n < y.2
instance (y : Rg) (n : Int) : Decidable (inY y n) := by unfold inY; infer_instance
/-- Of a list and a range, both functions give one list; a valid list stays one, and has the range's numbers besides. -/
theorem add_more (l : List Rg) (y : Rg) (hn : l.length ≤ 5) : ∃ r : List Rg, r.length ≤ 6 ∧ (okR (-1) l → okR (-1) r) ∧ (okR (-1) l → ∀ n, hasR r n ↔ hasR l n ∨ inY y n) ∧
    (∀ (A : Option Addr) (cap B : Nat) (w : World), B ≤ w.heap.size → Rgs w B A l → Calls Tryd.prog 10 #[.slice A l.length cap, rgV y] w fun e w' => ∃ v, e = .returned v ∧ OwnR w' w.heap.size v r ∧ Below w.heap.size w w') ∧
    (∀ (A : Option Addr) (cap B : Nat) (w : World), B ≤ w.heap.size → Rgs w B A l → Calls Tryd.prog 7 #[.slice A l.length cap, rgV y] w fun e w' => ∃ v, e = .returned v ∧ OwnR w' w.heap.size v r ∧ Below w.heap.size w w') := by
  refine ⟨if okR (-1) l ∧ fineR y then addR y l else l, ?_, fun hk => ?_, fun hk n => ?_, fun A cap B w hB hr => sadd l y A cap B w hB hr (by omega), fun A cap B w hB hr => ?_⟩
  · split
    · have := addR_len5 l y; omega
    · omega
  · split
    · rename_i h; exact addR_ok l (-1) y hk (by have := h.2.1; omega) h.2.2.1 h.2.2.2
    · exact hk
  · by_cases hf : fineR y
    · rw [if_pos ⟨hk, hf⟩, addR_has l (-1) y hk hf.2.1 n]
      unfold inY
      constructor
      · rintro (h | h)
        · exact .inl h
        · exact .inr ⟨hf, h⟩
      · rintro (h | h)
        · exact .inl h
        · exact .inr h.2
    · rw [if_neg (fun h => hf h.2)]
      exact ⟨fun h => .inl h, fun h => h.elim id (fun h => absurd h.1 hf)⟩
  · by_cases hk : okR (-1) l ∧ fineR y
    · rw [if_pos hk]; exact iadd_yes l y A cap B w hB hr (by omega) hk.1 hk.2
    · rw [if_neg hk]; exact iadd_no l y A cap B w hB hr (by omega) hk
/-- Of a list and a range, both functions give one list; a valid list stays one, and loses the range's numbers. -/
theorem rem_more (l : List Rg) (y : Rg) (hn : l.length ≤ 5) : ∃ r : List Rg, r.length ≤ 10 ∧ (okR (-1) l → okR (-1) r) ∧ (okR (-1) l → ∀ n, hasR r n ↔ hasR l n ∧ ¬ inY y n) ∧
    (∀ (A : Option Addr) (cap B : Nat) (w : World), B ≤ w.heap.size → Rgs w B A l → Calls Tryd.prog 11 #[.slice A l.length cap, rgV y] w fun e w' => ∃ v, e = .returned v ∧ OwnR w' w.heap.size v r ∧ Below w.heap.size w w') ∧
    (∀ (A : Option Addr) (cap B : Nat) (w : World), B ≤ w.heap.size → Rgs w B A l → Calls Tryd.prog 8 #[.slice A l.length cap, rgV y] w fun e w' => ∃ v, e = .returned v ∧ OwnR w' w.heap.size v r ∧ Below w.heap.size w w') := by
  refine ⟨if okR (-1) l ∧ fineR y then remR y l else l, ?_, fun hk => ?_, fun hk n => ?_, fun A cap B w hB hr => srem l y A cap B w hB hr (by omega), fun A cap B w hB hr => ?_⟩
  · split
    · have := remR_len5 y l; omega
    · omega
  · split
    · rename_i h; exact remR_ok y h.2.2.1 l (-1) hk
    · exact hk
  · by_cases hf : fineR y
    · rw [if_pos ⟨hk, hf⟩, remR_has y hf.2.1 l n]
      unfold inY
      exact ⟨fun h => ⟨h.1, fun g => h.2 g.2⟩, fun h => ⟨h.1, fun g => h.2 ⟨hf, g⟩⟩⟩
    · rw [if_neg (fun h => hf h.2)]
      exact ⟨fun h => ⟨h, fun g => hf g.1⟩, fun h => h.1⟩
  · by_cases hk : okR (-1) l ∧ fineR y
    · rw [if_pos hk]; exact irem_yes l y A cap B w hB hr (by omega) hk.1 hk.2
    · rw [if_neg hk]; exact irem_no l y A cap B w hB hr (by omega) hk
theorem seqr_same (l : List Rg) (A A' : Option Addr) (cap cap' B : Nat) (w : World) (hB : B ≤ w.heap.size) (hr : Rgs w B A l) (hr' : Rgs w B A' l) (hn : l.length ≤ 1000000000) :
    Calls Tryd.prog 9 #[.slice A l.length cap, .slice A' l.length cap'] w fun e w' => e = .returned (.bool true) ∧ Below w.heap.size w w' := by
  have := seqr l l A A' cap cap' B w hB hr hr' hn hn
  rw [decide_eq_true rfl] at this
  exact this
/-- A number at which both find a gap, and what it is. -/
theorem gap_more (l : List Rg) (n : Int) (hn : l.length ≤ 5) : ∃ g : Int, (0 ≤ g → n ≤ g ∧ ¬ hasR l g) ∧
    (∀ (A : Option Addr) (cap B : Nat) (w : World), B ≤ w.heap.size → Rgs w B A l → Calls Tryd.prog 18 #[.slice A l.length cap, .int .i64 n] w fun e w' => e = .returned (.int .i64 g) ∧ Below w.heap.size w w') ∧
    (∀ (A : Option Addr) (cap B : Nat) (w : World), B ≤ w.heap.size → Rgs w B A l → Calls Tryd.prog 17 #[.slice A l.length cap, .int .i64 n] w fun e w' => e = .returned (.int .i64 g) ∧ Below w.heap.size w w') := by
  refine ⟨if okR (-1) l ∧ 0 ≤ n then gapR l n else -1, fun h => ?_, fun A cap B w hB hr => sgap l n A cap B w hB hr (by omega), fun A cap B w hB hr => igap l n A cap B w hB hr (by omega)⟩
  by_cases hk : okR (-1) l ∧ 0 ≤ n
  · rw [if_pos hk]
    exact ⟨gapR_ge l n, gapR_free l (-1) n hk.1⟩
  · rw [if_neg hk] at h
    omega

set_option maxRecDepth 100000 in
set_option maxHeartbeats 16000000 in
/-- The law. -/
theorem law_Ranges (A : Option Addr) (len cap : Nat) (w : World) (hlen : len ≤ maxLen) (hcode : Code w w.heap.size A len) (hp : Pow w) :
    Calls Tryd.prog 3 #[.slice A len cap] w fun e w' => e = .returned (.bool true) ∧ Below w.heap.size w w' := by
  by_cases hbig : 1048576 < len
  · go_enter Tryd.func3, Tryd.ntmps3
    go_wp2_with (go_at_call 5; refine (big_yes A len cap _ hbig hlen).mono ?_; rintro e w' ⟨rfl, rfl⟩)
    go_ret
    exact ⟨rfl, Below.refl _ _⟩
  have hsm : len ≤ 1048576 := by omega
  clear hbig
  have HC := Lib.hid hcode
  have HL := Lib.hid hlen
  have HP := Lib.hid hp
  clear hcode hlen hp
  go_enter Tryd.func3, Tryd.ntmps3
  go_wp2_with fail
  refine (big_no A len cap _ hsm).mono ?_
  rintro e w' ⟨rfl, rfl⟩
  go_wp2_with fail
  refine (draw_add A len cap _ HL.out HC.out).mono ?_
  rintro e w1 ⟨Al, cl, l, y, rfl, hll, _, hil, hb1⟩
  obtain ⟨w2, hw2⟩ : ∃ wA, w1.alloc (.cells #[.int .i64 y.1, .int .i64 y.2] 26) = wA := ⟨_, rfl⟩
  have hb2 : Below w1.heap.size w1 w2 := by rw [← hw2]; exact (Below.refl _ _).alloc (Nat.le_refl _) _
  have X2 : Hid (Box w2 w1.heap.size y) := Lib.hid (by rw [← hw2]; exact Box.new w1 y)
  have k2 : w1.heap.size < w2.heap.size := by rw [← hw2]; simp
  have B2 := Lib.hid (hb1.trans (hb2.mono hb1.size))
  have RL2 := Lib.hid ((hil.below (Nat.le_refl _) hb2).up hb2.size)
  have HW2 := Lib.hid hw2
  obtain ⟨ra, hra, hoka, hhasa, hspa, hima⟩ := add_more l y hll
  obtain ⟨rb, hrb, hokb, hhasb, hspb, himb⟩ := rem_more l y hll
  have HOKA := Lib.hid hoka
  have HHASA := Lib.hid hhasa
  have HSPA := Lib.hid hspa
  have HIMA := Lib.hid hima
  have HOKB := Lib.hid hokb
  have HHASB := Lib.hid hhasb
  have HSPB := Lib.hid hspb
  have HIMB := Lib.hid himb
  obtain ⟨q1, q2⟩ := X2.out.cells
  clear hb1 hb2 hil hoka hhasa hspa hima hokb hhasb hspb himb
  go_upto_region 4 with fail
  clear hw2 HW2
  go_wp2_with fail
  refine (HIMA.out Al cl w2.heap.size w2 (Nat.le_refl _) RL2.out).mono ?_
  rintro e w3 ⟨v, rfl, ho, hb⟩
  obtain ⟨Aa, ca, rfl, _, hown⟩ := ho.rgs
  have RA3 := Lib.hid hown
  clear ho hown
  have RL3 := Lib.hid ((RL2.out.below (Nat.le_refl _) hb).up hb.size)
  have B3 := Lib.hid (B2.out.trans (hb.mono B2.out.size))
  have X3 : Hid (Box w3 w1.heap.size y) := Lib.hid ((hb.block _ k2).trans X2.out)
  have k3 := Nat.lt_of_lt_of_le k2 hb.size
  clear q1 q2
  obtain ⟨q1, q2⟩ := X3.out.cells
  clear X2 k2
  clear hb B2 RL2
  go_wp2_with fail
  refine (HIMB.out Al cl w3.heap.size w3 (Nat.le_refl _) RL3.out).mono ?_
  rintro e w4 ⟨v, rfl, ho, hb⟩
  obtain ⟨Ab, cb, rfl, _, hown⟩ := ho.rgs
  have RB4 := Lib.hid hown
  clear ho hown
  have RL4 := Lib.hid ((RL3.out.below (Nat.le_refl _) hb).up hb.size)
  have RA4 := Lib.hid ((RA3.out.below (Nat.le_refl _) hb).up hb.size)
  have B4 := Lib.hid (B3.out.trans (hb.mono B3.out.size))
  have X4 : Hid (Box w4 w1.heap.size y) := Lib.hid ((hb.block _ k3).trans X3.out)
  have k4 := Nat.lt_of_lt_of_le k3 hb.size
  clear q1 q2
  obtain ⟨q1, q2⟩ := X4.out.cells
  clear X3 k3
  clear hb B3 RL3 RA3
  go_wp2_with fail
  refine (HSPA.out Al cl w4.heap.size w4 (Nat.le_refl _) RL4.out).mono ?_
  rintro e w5 ⟨v, rfl, ho, hb⟩
  obtain ⟨Ac, cc, rfl, _, hown⟩ := ho.rgs
  have RC5 := Lib.hid hown
  clear ho hown
  have RL5 := Lib.hid ((RL4.out.below (Nat.le_refl _) hb).up hb.size)
  have RA5 := Lib.hid ((RA4.out.below (Nat.le_refl _) hb).up hb.size)
  have RB5 := Lib.hid ((RB4.out.below (Nat.le_refl _) hb).up hb.size)
  have B5 := Lib.hid (B4.out.trans (hb.mono B4.out.size))
  have X5 : Hid (Box w5 w1.heap.size y) := Lib.hid ((hb.block _ k4).trans X4.out)
  have k5 := Nat.lt_of_lt_of_le k4 hb.size
  clear q1 q2
  obtain ⟨q1, q2⟩ := X5.out.cells
  clear X4 k4
  clear hb B4 RL4 RA4 RB4
  go_wp2_with fail
  refine (seqr_same ra Aa Ac ca cc w5.heap.size w5 (Nat.le_refl _) RA5.out RC5.out (by omega)).mono ?_
  rintro e w6 ⟨rfl, hb⟩
  have RL6 := Lib.hid ((RL5.out.below (Nat.le_refl _) hb).up hb.size)
  have RA6 := Lib.hid ((RA5.out.below (Nat.le_refl _) hb).up hb.size)
  have RB6 := Lib.hid ((RB5.out.below (Nat.le_refl _) hb).up hb.size)
  have RC6 := Lib.hid ((RC5.out.below (Nat.le_refl _) hb).up hb.size)
  have B6 := Lib.hid (B5.out.trans (hb.mono B5.out.size))
  have X6 : Hid (Box w6 w1.heap.size y) := Lib.hid ((hb.block _ k5).trans X5.out)
  have k6 := Nat.lt_of_lt_of_le k5 hb.size
  clear q1 q2
  obtain ⟨q1, q2⟩ := X6.out.cells
  clear X5 k5
  clear hb B5 RL5 RA5 RB5 RC5
  clear RC6
  go_wp2_with fail
  refine (HSPB.out Al cl w6.heap.size w6 (Nat.le_refl _) RL6.out).mono ?_
  rintro e w7 ⟨v, rfl, ho, hb⟩
  obtain ⟨Ac, cc, rfl, _, hown⟩ := ho.rgs
  have RC7 := Lib.hid hown
  clear ho hown
  have RL7 := Lib.hid ((RL6.out.below (Nat.le_refl _) hb).up hb.size)
  have RA7 := Lib.hid ((RA6.out.below (Nat.le_refl _) hb).up hb.size)
  have RB7 := Lib.hid ((RB6.out.below (Nat.le_refl _) hb).up hb.size)
  have B7 := Lib.hid (B6.out.trans (hb.mono B6.out.size))
  have X7 : Hid (Box w7 w1.heap.size y) := Lib.hid ((hb.block _ k6).trans X6.out)
  have k7 := Nat.lt_of_lt_of_le k6 hb.size
  clear q1 q2
  obtain ⟨q1, q2⟩ := X7.out.cells
  clear X6 k6
  clear hb B6 RL6 RA6 RB6
  go_wp2_with fail
  refine (seqr_same rb Ab Ac cb cc w7.heap.size w7 (Nat.le_refl _) RB7.out RC7.out (by omega)).mono ?_
  rintro e w8 ⟨rfl, hb⟩
  have RL8 := Lib.hid ((RL7.out.below (Nat.le_refl _) hb).up hb.size)
  have RA8 := Lib.hid ((RA7.out.below (Nat.le_refl _) hb).up hb.size)
  have RB8 := Lib.hid ((RB7.out.below (Nat.le_refl _) hb).up hb.size)
  have RC8 := Lib.hid ((RC7.out.below (Nat.le_refl _) hb).up hb.size)
  have B8 := Lib.hid (B7.out.trans (hb.mono B7.out.size))
  have X8 : Hid (Box w8 w1.heap.size y) := Lib.hid ((hb.block _ k7).trans X7.out)
  have k8 := Nat.lt_of_lt_of_le k7 hb.size
  clear q1 q2
  obtain ⟨q1, q2⟩ := X8.out.cells
  clear X7 k7
  clear hb B7 RL7 RA7 RB7 RC7
  clear RC8 HIMA HIMB HSPA HSPB
  obtain ⟨bo, hbo⟩ : ∃ bo : Bool, decide (okR (-1) l) = bo := ⟨_, rfl⟩
  have HBO := Lib.hid hbo
  clear hbo
  have HI1 := Lib.hid (iisr l Al cl w8.heap.size w8 (Nat.le_refl _) RL8.out (by omega))
  rw [HBO.out] at HI1
  go_wp2_with fail
  refine (HI1.out).mono ?_
  rintro e w9 ⟨rfl, hb⟩
  have RL9 := Lib.hid ((RL8.out.below (Nat.le_refl _) hb).up hb.size)
  have RA9 := Lib.hid ((RA8.out.below (Nat.le_refl _) hb).up hb.size)
  have RB9 := Lib.hid ((RB8.out.below (Nat.le_refl _) hb).up hb.size)
  have B9 := Lib.hid (B8.out.trans (hb.mono B8.out.size))
  have X9 : Hid (Box w9 w1.heap.size y) := Lib.hid ((hb.block _ k8).trans X8.out)
  have k9 := Nat.lt_of_lt_of_le k8 hb.size
  clear q1 q2
  obtain ⟨q1, q2⟩ := X9.out.cells
  clear X8 k8
  clear hb B8 RL8 RA8 RB8
  clear HI1
  have HI2 := Lib.hid (sisr l Al cl w9.heap.size w9 (Nat.le_refl _) RL9.out (by omega))
  rw [HBO.out] at HI2
  go_wp2_with fail
  refine (HI2.out).mono ?_
  rintro e w10 ⟨rfl, hb⟩
  have RL10 := Lib.hid ((RL9.out.below (Nat.le_refl _) hb).up hb.size)
  have RA10 := Lib.hid ((RA9.out.below (Nat.le_refl _) hb).up hb.size)
  have RB10 := Lib.hid ((RB9.out.below (Nat.le_refl _) hb).up hb.size)
  have B10 := Lib.hid (B9.out.trans (hb.mono B9.out.size))
  have X10 : Hid (Box w10 w1.heap.size y) := Lib.hid ((hb.block _ k9).trans X9.out)
  have k10 := Nat.lt_of_lt_of_le k9 hb.size
  clear q1 q2
  obtain ⟨q1, q2⟩ := X10.out.cells
  clear X9 k9
  clear hb B9 RL9 RA9 RB9
  clear HI2
  have HI3 := Lib.hid (sisr l Al cl w10.heap.size w10 (Nat.le_refl _) RL10.out (by omega))
  rw [HBO.out] at HI3
  have hbb : (bo != bo) = false := by cases bo <;> rfl
  go_wp2_with fail
  refine (HI3.out).mono ?_
  rintro e w11 ⟨rfl, hb⟩
  have RL11 := Lib.hid ((RL10.out.below (Nat.le_refl _) hb).up hb.size)
  have RA11 := Lib.hid ((RA10.out.below (Nat.le_refl _) hb).up hb.size)
  have RB11 := Lib.hid ((RB10.out.below (Nat.le_refl _) hb).up hb.size)
  have B11 := Lib.hid (B10.out.trans (hb.mono B10.out.size))
  have X11 : Hid (Box w11 w1.heap.size y) := Lib.hid ((hb.block _ k10).trans X10.out)
  have k11 := Nat.lt_of_lt_of_le k10 hb.size
  clear q1 q2
  obtain ⟨q1, q2⟩ := X11.out.cells
  clear X10 k10
  clear hb B10 RL10 RA10 RB10
  clear HI3 hbb
  go_upto_if 51 with fail
  go_cut [7, 8, 9] (fun _ _ _ wx => Below w.heap.size w wx)
  case first =>
    cases bo with
    | false =>
      go_wp2
      go_meet
      exact B11.out
    | true =>
      have hok : okR (-1) l := of_decide_eq_true HBO.out
      have CIA : Hid (∀ W, Below w11.heap.size w11 W → Calls Tryd.prog 12 #[.slice Aa ra.length ca] W fun e w' => e = .returned (.bool (decide (okR (-1) ra))) ∧ Below W.heap.size W w') := Lib.hid fun W hW => iisr ra Aa ca w11.heap.size W hW.size (RA11.out.below (Nat.le_refl _) hW) (by omega)
      have CIB : Hid (∀ W, Below w11.heap.size w11 W → Calls Tryd.prog 12 #[.slice Ab rb.length cb] W fun e w' => e = .returned (.bool (decide (okR (-1) rb))) ∧ Below W.heap.size W w') := Lib.hid fun W hW => iisr rb Ab cb w11.heap.size W hW.size (RB11.out.below (Nat.le_refl _) hW) (by omega)
      have CHA : Hid (∀ (n : Int) W, Below w11.heap.size w11 W → Calls Tryd.prog 14 #[.slice Aa ra.length ca, .int .i64 n] W fun e w' => e = .returned (.bool (decide (hasR ra n))) ∧ Below W.heap.size W w') := Lib.hid fun n W hW => ihas ra n Aa ca w11.heap.size W hW.size (RA11.out.below (Nat.le_refl _) hW) (by omega)
      have CHB : Hid (∀ (n : Int) W, Below w11.heap.size w11 W → Calls Tryd.prog 14 #[.slice Ab rb.length cb, .int .i64 n] W fun e w' => e = .returned (.bool (decide (hasR rb n))) ∧ Below W.heap.size W w') := Lib.hid fun n W hW => ihas rb n Ab cb w11.heap.size W hW.size (RB11.out.below (Nat.le_refl _) hW) (by omega)
      have CPL : Hid (∀ (n : Int) W, Below w11.heap.size w11 W → Calls Tryd.prog 15 #[.slice Al l.length cl, .int .i64 n] W fun e w' => e = .returned (.bool (decide (hasR l n))) ∧ Below W.heap.size W w') := Lib.hid fun n W hW => lspan l n Al cl w11.heap.size W hW.size (RL11.out.below (Nat.le_refl _) hW) (by omega)
      rw [decide_eq_true (HOKA.out hok)] at CIA
      rw [decide_eq_true (HOKB.out hok)] at CIB
      have HMA := Lib.hid (HHASA.out hok)
      have HMB := Lib.hid (HHASB.out hok)
      clear hok RL11 RA11 RB11 HOKA HOKB HHASA HHASB HC HP HL
      obtain ⟨bf, hbf⟩ : ∃ bf : Bool, decide (fineR y) = bf := ⟨_, rfl⟩
      have HBF := Lib.hid hbf
      clear hbf
      go_upto_region 9 with fail
      go_cut [7] (fun v wx => v = .bool bf ∧ wx = w11)
      case first =>
        by_cases h1 : 0 ≤ y.1
        · by_cases h2 : y.1 < y.2
          · by_cases h3 : y.2 ≤ 4611686018427387903
            · have hd1 : decide (0 ≤ y.1) = true := decide_eq_true h1
              have hd2 : decide (y.1 < y.2) = true := decide_eq_true h2
              have hd3 : decide (y.2 ≤ 4611686018427387903) = true := decide_eq_true h3
              obtain rfl : bf = true := by rw [← HBF.out]; exact decide_eq_true (show fineR y from ⟨h1, h2, h3⟩)
              clear h1 h2 h3
              go_wp2
              go_meet
              exact ⟨rfl, rfl⟩
            · have hd1 : decide (0 ≤ y.1) = true := decide_eq_true h1
              have hd2 : decide (y.1 < y.2) = true := decide_eq_true h2
              have hd3 : decide (y.2 ≤ 4611686018427387903) = false := decide_eq_false h3
              obtain rfl : bf = false := by rw [← HBF.out]; exact decide_eq_false (show ¬ fineR y from fun h => h3 h.2.2)
              clear h1 h2 h3
              go_wp2
              go_meet
              exact ⟨rfl, rfl⟩
          · have hd1 : decide (0 ≤ y.1) = true := decide_eq_true h1
            have hd2 : decide (y.1 < y.2) = false := decide_eq_false h2
            obtain rfl : bf = false := by rw [← HBF.out]; exact decide_eq_false (show ¬ fineR y from fun h => h2 h.2.1)
            clear h1 h2
            go_wp2
            go_meet
            exact ⟨rfl, rfl⟩
        · have hd1 : decide (0 ≤ y.1) = false := decide_eq_false h1
          obtain rfl : bf = false := by rw [← HBF.out]; exact decide_eq_false (show ¬ fineR y from fun h => h1 h.1)
          clear h1
          go_wp2
          go_meet
          exact ⟨rfl, rfl⟩
      case rest =>
        obtain ⟨rfl, rfl⟩ := hcut
        have HW0 := Lib.hid (Below.refl wc.heap.size wc)
        go_wp2_with fail
        refine (CIA.out _ HW0.out).mono ?_
        rintro e wa ⟨rfl, hb⟩
        have HW1 := Lib.hid (HW0.out.trans (hb.mono HW0.out.size))
        clear hb
        go_wp2_with fail
        refine (CIB.out _ HW1.out).mono ?_
        rintro e wb ⟨rfl, hb⟩
        have HW2 := Lib.hid (HW1.out.trans (hb.mono HW1.out.size))
        clear hb CIA CIB HW0 HW1
        go_wp2_with fail
        go_loopw [8, 9] (fun x _ wr => ∃ z : Int, -1 ≤ z ∧ z ≤ 40 ∧ x = .int .i64 z ∧ Below wc.heap.size wc wr) (fun x _ _ => (40 - intOf x).toNat)
        case atStart => exact ⟨-1, by omega, by omega, rfl, HW2.out⟩
        case round =>
          obtain ⟨z, hz0, hz1, rfl, hbz⟩ := hrel
          have HW := Lib.hid hbz
          clear hbz HW2
          have XR : Hid (Box wr w1.heap.size y) := Lib.hid ((HW.out.block _ k11).trans X11.out)
          clear q1 q2
          obtain ⟨q1, q2⟩ := XR.out.cells
          by_cases hlt : z < 40
          · have hd : decide (z < 40) = true := decide_eq_true hlt
            obtain ⟨bz, hbz⟩ : ∃ bz : Bool, decide (inY y z) = bz := ⟨_, rfl⟩
            have HBZ := Lib.hid hbz
            clear hbz
            go_upto_region 15 with fail
            go_cut [9] (fun v wx => v = .bool bz ∧ wx = wr)
            case first =>
              by_cases hf : fineR y
              · obtain rfl : bf = true := by rw [← HBF.out]; exact decide_eq_true hf
                by_cases h1 : y.1 ≤ z
                · have hd1 : decide (y.1 ≤ z) = true := decide_eq_true h1
                  by_cases h2 : z < y.2
                  · have hd2 : decide (z < y.2) = true := decide_eq_true h2
                    obtain rfl : bz = true := by rw [← HBZ.out]; exact decide_eq_true (show inY y z from ⟨hf, h1, h2⟩)
                    clear hf h1 h2
                    go_wp2
                    go_meet
                    exact ⟨rfl, rfl⟩
                  · have hd2 : decide (z < y.2) = false := decide_eq_false h2
                    obtain rfl : bz = false := by rw [← HBZ.out]; exact decide_eq_false (show ¬ inY y z from fun h => h2 h.2.2)
                    clear hf h1 h2
                    go_wp2
                    go_meet
                    exact ⟨rfl, rfl⟩
                · have hd1 : decide (y.1 ≤ z) = false := decide_eq_false h1
                  obtain rfl : bz = false := by rw [← HBZ.out]; exact decide_eq_false (show ¬ inY y z from fun h => h1 h.2.1)
                  clear hf h1
                  go_wp2
                  go_meet
                  exact ⟨rfl, rfl⟩
              · obtain rfl : bf = false := by rw [← HBF.out]; exact decide_eq_false hf
                obtain rfl : bz = false := by rw [← HBZ.out]; exact decide_eq_false (fun h : inY y z => hf h.1)
                clear hf
                go_wp2
                go_meet
                exact ⟨rfl, rfl⟩
            case rest =>
              obtain ⟨rfl, rfl⟩ := hcut
              have ha := HMA.out z
              have hb := HMB.out z
              have HA1 := Lib.hid (CHA.out z)
              have HB1 := Lib.hid (CHB.out z)
              have HL1 := Lib.hid (CPL.out z)
              obtain ⟨bl, hbl⟩ : ∃ bl : Bool, decide (hasR l z) = bl := ⟨_, rfl⟩
              have ea : decide (hasR ra z) = (bl || bz) := by rw [← hbl, ← HBZ.out, decide_eq_decide.2 ha, Bool.decide_or]
              have eb : decide (hasR rb z) = (bl && !bz) := by rw [← hbl, ← HBZ.out, decide_eq_decide.2 hb, Bool.decide_and, decide_not]
              rw [hbl] at HL1
              rw [ea] at HA1
              rw [eb] at HB1
              clear ha hb hbl ea eb HBZ HBF HMA HMB CHA CHB CPL
              cases bz <;> cases bl
              all_goals (
                simp only [Bool.or_false, Bool.or_true, Bool.and_true, Bool.and_false, Bool.not_true, Bool.not_false] at HA1 HB1
                go_wp2_with fail
                refine (HA1.out _ HW.out).mono ?_
                rintro e wv ⟨rfl, hbv⟩
                have HV1 := Lib.hid (HW.out.trans (hbv.mono HW.out.size))
                clear hbv HW
                go_wp2_with fail
                refine (HL1.out _ HV1.out).mono ?_
                rintro e wv ⟨rfl, hbv⟩
                have HV2 := Lib.hid (HV1.out.trans (hbv.mono HV1.out.size))
                clear hbv HV1
                go_wp2_with fail
                refine (HB1.out _ HV2.out).mono ?_
                rintro e wv ⟨rfl, hbv⟩
                have HV3 := Lib.hid (HV2.out.trans (hbv.mono HV2.out.size))
                clear hbv HV2
                go_wp2_with fail
                refine (HL1.out _ HV3.out).mono ?_
                rintro e wv ⟨rfl, hbv⟩
                have HV4 := Lib.hid (HV3.out.trans (hbv.mono HV3.out.size))
                clear hbv HV3
                clear HA1 HB1 HL1
                go_wp2
                go_roundw
                case rel => exact ⟨z + 1, by omega, by omega, by go_num, HV4.out⟩
                case measure => simp [intOf]; omega)
          · obtain rfl : z = 40 := by omega
            go_wp2
            go_meet
            exact B11.out.trans (HW.out.mono B11.out.size)
  case rest =>
    have BC := Lib.hid hcut
    clear hcut RL11 RA11 RB11 HOKA HOKB HHASA HHASB B11 X11 k11 q1 q2 HBO
    go_wp2_with fail
    refine (draw_has A len cap _ HL.out (Code.later HC.out BC.out)).mono ?_
    rintro e v1 ⟨Au, cu, u, n, rfl, hul, hn0, hn1, hiu, hb⟩
    have C1 := Lib.hid (BC.out.trans (hb.mono BC.out.size))
    have U1 := Lib.hid hiu
    obtain ⟨g, hg, hsg, hig⟩ := gap_more u n hul
    have HG := Lib.hid hg
    have HSG := Lib.hid hsg
    have HIG := Lib.hid hig
    clear hb hiu hg hsg hig BC
    go_wp2_with fail
    refine (HIG.out Au cu v1.heap.size v1 (Nat.le_refl _) U1.out).mono ?_
    rintro e v2 ⟨rfl, hb⟩
    have C2 := Lib.hid (C1.out.trans (hb.mono C1.out.size))
    have U2 := Lib.hid ((U1.out.below (Nat.le_refl _) hb).up hb.size)
    clear hb C1 U1 HIG
    have HSP : Hid (∀ W, Below v2.heap.size v2 W → Calls Tryd.prog 15 #[.slice Au u.length cu, .int .i64 g] W fun e w' => e = .returned (.bool (decide (hasR u g))) ∧ Below W.heap.size W w') := Lib.hid fun W hW => lspan u g Au cu v2.heap.size W hW.size (U2.out.below (Nat.le_refl _) hW) (by omega)
    have HIH : Hid (∀ W, Below v2.heap.size v2 W → Calls Tryd.prog 14 #[.slice Au u.length cu, .int .i64 n] W fun e w' => e = .returned (.bool (decide (hasR u n))) ∧ Below W.heap.size W w') := Lib.hid fun W hW => ihas u n Au cu v2.heap.size W hW.size (U2.out.below (Nat.le_refl _) hW) (by omega)
    have HSH : Hid (∀ W, Below v2.heap.size v2 W → Calls Tryd.prog 19 #[.slice Au u.length cu, .int .i64 n] W fun e w' => e = .returned (.bool (decide (hasR u n))) ∧ Below W.heap.size W w') := Lib.hid fun W hW => shas u n Au cu v2.heap.size W hW.size (U2.out.below (Nat.le_refl _) hW) (by omega)
    have HGS := Lib.hid (HSG.out Au cu v2.heap.size v2 (Nat.le_refl _) U2.out)
    obtain ⟨bn, hbn⟩ : ∃ bn : Bool, decide (hasR u n) = bn := ⟨_, rfl⟩
    rw [hbn] at HIH HSH
    have hbb : (bn != bn) = false := by cases bn <;> rfl
    clear hbn HSG U2
    go_upto_region 20 with fail
    go_cut [150] (fun v wx => v = .bool false ∧ Below w.heap.size w wx)
    case first =>
      by_cases h0 : 0 ≤ g
      · obtain ⟨h1, h2⟩ := HG.out h0
        have hd0 : decide (0 ≤ g) = true := decide_eq_true h0
        have hd1 : decide (g < n) = false := decide_eq_false (by omega)
        rw [decide_eq_false h2] at HSP
        clear h0 h1 h2 HG
        go_wp2_with fail
        refine HGS.out.mono ?_
        rintro e v3 ⟨rfl, hb3⟩
        have D3 := Lib.hid hb3
        clear hb3
        go_wp2_with fail
        refine (HSP.out _ D3.out).mono ?_
        rintro e v4 ⟨rfl, hb4⟩
        have D4 := Lib.hid (D3.out.trans (hb4.mono D3.out.size))
        clear hb4
        go_wp2_with fail
        refine (HIH.out _ D4.out).mono ?_
        rintro e v5 ⟨rfl, hb5⟩
        have D5 := Lib.hid (D4.out.trans (hb5.mono D4.out.size))
        clear hb5
        go_wp2_with fail
        refine (HSH.out _ D5.out).mono ?_
        rintro e v6 ⟨rfl, hb6⟩
        have D6 := Lib.hid (D5.out.trans (hb6.mono D5.out.size))
        clear hb6
        go_wp2
        go_meet
        exact ⟨rfl, C2.out.trans (D6.out.mono C2.out.size)⟩
      · have hd0 : decide (0 ≤ g) = false := decide_eq_false h0
        clear h0 HG
        go_wp2_with fail
        refine HGS.out.mono ?_
        rintro e v3 ⟨rfl, hb3⟩
        have D3 := Lib.hid hb3
        clear hb3
        go_wp2_with fail
        refine (HIH.out _ D3.out).mono ?_
        rintro e v5 ⟨rfl, hb5⟩
        have D5 := Lib.hid (D3.out.trans (hb5.mono D3.out.size))
        clear hb5
        go_wp2_with fail
        refine (HSH.out _ D5.out).mono ?_
        rintro e v6 ⟨rfl, hb6⟩
        have D6 := Lib.hid (D5.out.trans (hb6.mono D5.out.size))
        clear hb6
        go_wp2
        go_meet
        exact ⟨rfl, C2.out.trans (D6.out.mono C2.out.size)⟩
    case rest =>
      obtain ⟨rfl, hbc⟩ := hcut
      have E0 := Lib.hid hbc
      clear hbc HSP HIH HSH HGS HG hbb C2
      go_wp2_with fail
      refine (draw_fmt A len cap _ HL.out (Code.later HC.out E0.out)).mono ?_
      rintro e x1 ⟨As, cs, s, rfl, hsl, hsz, his, hb⟩
      have E1 := Lib.hid (E0.out.trans (hb.mono E0.out.size))
      have S1 := Lib.hid his
      have SZ := Lib.hid hsz
      clear hb his hsz E0
      go_wp2_with fail
      refine (draw_eq A len cap _ HL.out (Code.later HC.out E1.out)).mono ?_
      rintro e x2 ⟨Ap, Aq, cp, cq, p, q, rfl, hpl, hql, hip, hiq, hb⟩
      have E2 := Lib.hid (E1.out.trans (hb.mono E1.out.size))
      have S2 := Lib.hid ((S1.out.below (Nat.le_refl _) hb).up hb.size)
      have P2 := Lib.hid hip
      have Q2 := Lib.hid hiq
      clear hb hip hiq E1 S1
      obtain ⟨tt, ht⟩ : ∃ tt : ByteArray, (⟨(textR s).toArray⟩ : ByteArray) = tt := ⟨_, rfl⟩
      obtain ⟨bq, hbq⟩ : ∃ bq : Bool, decide (p = q) = bq := ⟨_, rfl⟩
      have hbb : (bq == bq) = true := by cases bq <;> rfl
      have HF1 := Lib.hid (ifmtr s As cs x2.heap.size x2 (Nat.le_refl _) S2.out (by omega) SZ.out (HP.out.keep E2.out))
      rw [ht] at HF1
      have HF2 : Hid (∀ W, Below x2.heap.size x2 W → Calls Tryd.prog 23 #[.slice As s.length cs] W fun e w' => e = .returned (.string ⟨(textR s).toArray⟩) ∧ Below W.heap.size W w') := Lib.hid fun W hW => sfmtr s As cs x2.heap.size W hW.size (S2.out.below (Nat.le_refl _) hW) (by omega) SZ.out
      rw [ht] at HF2
      have HE1 : Hid (∀ W, Below x2.heap.size x2 W → Calls Tryd.prog 24 #[.slice Ap p.length cp, .slice Aq q.length cq] W fun e w' => e = .returned (.bool (decide (p = q))) ∧ Below W.heap.size W w') := Lib.hid fun W hW => ieqr p q Ap Aq cp cq x2.heap.size W hW.size (P2.out.below (Nat.le_refl _) hW) (Q2.out.below (Nat.le_refl _) hW) (by omega) (by omega)
      rw [hbq] at HE1
      have HE2 : Hid (∀ W, Below x2.heap.size x2 W → Calls Tryd.prog 9 #[.slice Ap p.length cp, .slice Aq q.length cq] W fun e w' => e = .returned (.bool (decide (p = q))) ∧ Below W.heap.size W w') := Lib.hid fun W hW => seqr p q Ap Aq cp cq x2.heap.size W hW.size (P2.out.below (Nat.le_refl _) hW) (Q2.out.below (Nat.le_refl _) hW) (by omega) (by omega)
      rw [hbq] at HE2
      clear ht hbq S2 P2 Q2 SZ HC HP HL
      go_wp2_with fail
      refine HF1.out.mono ?_
      rintro e x3 ⟨rfl, hb⟩
      have G3 := Lib.hid hb
      clear hb HF1
      go_wp2_with fail
      refine (HF2.out _ G3.out).mono ?_
      rintro e x4 ⟨rfl, hb⟩
      have G4 := Lib.hid (G3.out.trans (hb.mono G3.out.size))
      clear hb HF2
      go_wp2_with fail
      refine (HE1.out _ G4.out).mono ?_
      rintro e x5 ⟨rfl, hb⟩
      have G5 := Lib.hid (G4.out.trans (hb.mono G4.out.size))
      clear hb HE1
      go_wp2_with fail
      refine (HE2.out _ G5.out).mono ?_
      rintro e x6 ⟨rfl, hb⟩
      have G6 := Lib.hid (G5.out.trans (hb.mono G5.out.size))
      clear hb HE2
      go_wp2
      go_ret
      exact ⟨rfl, E2.out.trans (G6.out.mono E2.out.size)⟩
end Go.Proofs.YtjgabiklmloogaaDoor
