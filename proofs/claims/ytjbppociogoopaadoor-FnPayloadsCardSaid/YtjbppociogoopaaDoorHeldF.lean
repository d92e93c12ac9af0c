/-
  What laws.heldFrameS returns, of a slice that holds the marks.
-/
import Derived.Test.YtjbppociogoopaaDoorMarkF
import Derived.Test.YtjbppociogoopaaDoorFrN3
namespace Go.Proofs.YtjbppociogoopaaDoor
open Go.RowKit Go.Deep Go.Proofs.YtjbppociogoopaaDoor.Num

set_option maxRecDepth 100000 in
set_option maxHeartbeats 2000000 in
/-- laws.heldFrameS -/
theorem heldF (n : Nat) (A : Option Addr) (cap B : Nat) (w : World) (hB : B ≤ w.heap.size) (hr : Frs w B A (marksF 1 n)) (hn : n ≤ 10000000) :
    Calls Tryd.prog 40 #[.slice A n cap, .int .i64 1] w fun e w' => e = .returned (.int .i64 ((1 + 9 * n : Nat) : Int)) ∧ Below w.heap.size w w' := by
  have HR := Lib.hid hr
  clear hr
  go_enter Tryd.func40, Tryd.ntmps40
  go_wp2
  go_loopw [1, 5] (fun kk i wr => ∃ (j q : Nat), j ≤ n ∧ i = .int .i64 j ∧ kk = .int .i64 (q : Int) ∧ q = 1 + 9 * j ∧ Below w.heap.size w wr) (fun _ i _ => n - (intOf i).toNat)
  case atStart => exact ⟨0, 1, Nat.zero_le _, rfl, rfl, rfl, Below.refl _ _⟩
  case round =>
    obtain ⟨j, q, hj, rfl, rfl, hq, hb⟩ := hrel
    have HB := Lib.hid hb
    have HQ := Lib.hid hq
    clear hb
    by_cases hlt : j < n
    · have hjk : j < (marksF 1 n).length := by rw [marksF_len]; exact hlt
      obtain ⟨b, off, rfl, hbB, c0, c1, c2, c3, c4, c5, c6, c7, c8⟩ := (HR.out.below hB HB.out).cells j hjk
      have hq0 : q ≤ 1000000000 - 9 := by omega
      rw [marksF_at, ← hq] at c0 c1 c2 c3 c4 c5 c6 c7 c8
      dsimp only [markF] at c0 c1 c2 c3 c4 c5 c6 c7 c8
      clear hq hjk
      have HM := Lib.hid (mtext3 q (by omega) wr.drew)
      generalize (⟨(markT ((q : Int) + 1 + 1 + 1)).toArray⟩ : ByteArray) = tx at *
      have hbw : b < wr.heap.size := Nat.lt_of_lt_of_le hbB (Nat.le_trans hB HB.out.size)
      have hS : ∀ W, Below wr.heap.size wr W → W.cell? ⟨b, off + j * 9 + 3, none⟩ = some (.string tx) := fun W h => (h.cell hbw).trans c3
      go_upto_region 13 with fail
      go_region_held3 (fun W => W.cell? ⟨b, off + j * 9 + 3, none⟩ = some (.string tx)) (first | exact hS _ (Below.refl _ _).drew | exact hS _ ((Below.refl _ _).drew.trans hb2)) (first | (go_at_call 67; refine (HM.out).mono ?_; rintro e w2 ⟨rfl, hb2⟩))
      have hbl : Below wr.heap.size wr w2 := (Below.refl _ _).drew.trans hb2
      have d4 := (hbl.cell (p := ⟨b, off + j * 9 + 4, none⟩) hbw).trans c4
      have d5 := (hbl.cell (p := ⟨b, off + j * 9 + 5, none⟩) hbw).trans c5
      have d6 := (hbl.cell (p := ⟨b, off + j * 9 + 6, none⟩) hbw).trans c6
      have d7 := (hbl.cell (p := ⟨b, off + j * 9 + 7, none⟩) hbw).trans c7
      have d8 := (hbl.cell (p := ⟨b, off + j * 9 + 8, none⟩) hbw).trans c8
      have HB2 := Lib.hid (HB.out.trans (hbl.mono HB.out.size))
      have hbb : ∀ x : Bool, (x != x) = false := fun x => by simp
      have hii : ∀ x : Int, (x != x) = false := fun x => by simp
      clear c0 c1 c2 c3 c4 c5 c6 c7 c8 hb2 hbl hS
      go_wp2
      go_roundw
      case rel => exact ⟨j + 1, q + 9, by omega, by go_num, by congr 1, by have h := HQ.out; omega, HB2.out⟩
      case measure => simp [intOf]; omega
    · obtain rfl : j = n := by omega
      subst hq
      go_wp2
      go_ret
      exact ⟨rfl, HB.out⟩

set_option maxRecDepth 100000 in
/-- laws.markFrameS, on no slice. -/
theorem marknoneF (w : World) :
    Calls Tryd.prog 39 #[.slice none 0 0, .int .i64 1] w fun e w' => e = .returned (.int .i64 1) ∧ w' = w := by
  go_enter Tryd.func39, Tryd.ntmps39
  go_wp2
  go_loop [1, 5] (fun kk i => i = .int .i64 0 ∧ kk = .int .i64 1) (fun _ i => (intOf i).toNat)
  case atStart => exact ⟨rfl, rfl⟩
  case round =>
    obtain ⟨rfl, rfl⟩ := hrel
    go_wp2
    go_ret
    exact ⟨rfl, rfl⟩
/-- There are no more frames than bytes. -/
theorem decP_short : ∀ (n : Nat) (L : List UInt8) (l : List Fr), decP n L = some l → l.length ≤ L.length := by
  intro n
  induction n with
  | zero =>
    intro L l h
    have : l = [] := by cases L <;> simp [decP] at h <;> exact h
    subst this
    simp
  | succ n ih =>
    intro L l h
    cases L with
    | nil =>
      rw [decP_nil] at h
      obtain rfl := Option.some.inj h
      simp
    | cons b t =>
      have e : decP (n + 1) (b :: t) = if b = 0 then decP n t else match decF (b :: t) with | none => none | some (f, k) => (decP n ((b :: t).drop k)).map fun l => f :: l := rfl
      rw [e] at h
      split at h
      · have := ih t l h
        simp only [List.length_cons]
        omega
      · split at h
        · cases h
        · rename_i f k hd
          have hk := decF_len hd
          cases hq : decP n ((b :: t).drop k) with
          | none => rw [hq] at h; cases h
          | some l' =>
            rw [hq] at h
            obtain rfl := Option.some.inj h
            have := ih _ _ hq
            rw [List.length_drop] at this
            rw [List.length_cons]
            omega
end Go.Proofs.YtjbppociogoopaaDoor
