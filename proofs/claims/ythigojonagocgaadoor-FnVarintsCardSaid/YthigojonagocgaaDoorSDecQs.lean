/-
  What spec.DecodeQuics returns.
-/
import Derived.Test.YthigojonagocgaaDoorInts
import Derived.Test.YthigojonagocgaaDoorSDecQ
namespace Go.Proofs.YthigojonagocgaaDoor
open Go.RowKit Go.Deep Go.Proofs.YthigojonagocgaaDoor.Num

/-- What the walk has read so far, and what is left to read, is what there is to read. -/
def Reads (l : List UInt8) (p f : Nat) (acc : List Int) : Prop := decQs l.length l = (decQs f (l.drop p)).map (acc ++ ·) ∧ l.length ≤ p + f ∧ acc.length ≤ p ∧ p ≤ l.length ∧ ∀ z ∈ acc, 0 ≤ z ∧ z ≤ 4611686018427387903
theorem Reads.start (l : List UInt8) : Reads l 0 l.length [] := ⟨by simp, by omega, by simp, by omega, fun z hz => by simp at hz⟩
theorem Reads.step {l : List UInt8} {p f : Nat} {acc : List Int} (h : Reads l p f acc) (hp : p < l.length) {n k : Nat} (hd : decL (l.drop p) = some (n, k)) : ∃ g, f = g + 1 ∧ Reads l (p + k) g (acc ++ [(n : Int)]) := by
  obtain ⟨h1, h2, h3, h4, h5⟩ := h
  obtain ⟨g, rfl⟩ : ∃ g, f = g + 1 := ⟨f - 1, by omega⟩
  have hk := decL_some hd
  have hne : l.drop p ≠ [] := fun e => by
    have := congrArg List.length e
    rw [List.length_drop, List.length_nil] at this
    omega
  rw [decQs_step g _ hne n k hd, List.drop_drop] at h1
  rw [List.length_drop] at hk
  refine ⟨g, rfl, ?_, by omega, by rw [List.length_append, List.length_singleton]; omega, by omega, fun z hz => ?_⟩
  · rw [h1]
    cases decQs g (l.drop (p + k)) with
    | none => rfl
    | some zs => simp
  · rw [List.mem_append, List.mem_singleton] at hz
    rcases hz with hz | rfl
    · exact h5 z hz
    · have := qsz_zero (n : Int)
      omega
theorem Reads.bad {l : List UInt8} {p f : Nat} {acc : List Int} (h : Reads l p f acc) (hp : p < l.length) (hd : decL (l.drop p) = none) : decQs l.length l = none := by
  obtain ⟨h1, h2, h3, h4, _⟩ := h
  obtain ⟨g, rfl⟩ : ∃ g, f = g + 1 := ⟨f - 1, by omega⟩
  have hne : l.drop p ≠ [] := fun e => by
    have := congrArg List.length e
    rw [List.length_drop, List.length_nil] at this
    omega
  rw [decQs_none g _ hne hd] at h1
  exact h1
theorem Reads.done {l : List UInt8} {p f : Nat} {acc : List Int} (h : Reads l p f acc) (hp : ¬ p < l.length) : decQs l.length l = some acc := by
  obtain ⟨h1, h2, h3, h4, _⟩ := h
  rw [List.drop_of_length_le (by omega), decQs_nil] at h1
  simpa using h1

/-- A list of ints and whether there is one. -/
def ListP (l : List UInt8) (w : World) (e : Ending) (w' : World) : Prop :=
  (∃ v zs, decQs l.length l = some zs ∧ zs.length ≤ l.length ∧ e = .returned (.tuple #[v, .bool true]) ∧ OwnI w' w.heap.size v zs ∧ Below w.heap.size w w') ∨
  (∃ v, decQs l.length l = none ∧ e = .returned (.tuple #[v, .bool false]) ∧ OwnI w' w.heap.size v [] ∧ Below w.heap.size w w')

set_option maxRecDepth 100000 in
set_option maxHeartbeats 800000 in
/-- spec.DecodeQuics -/
theorem sdecqs (s : ByteArray) (w : World) (hs : s.size ≤ 1048576) :
    Calls Tryd.prog 24 #[.string s] w (ListP s.data.toList w) := by
  have h3 : s.data.toList.length = s.size := by simp
  have hmx : s.size ≤ maxLen := by unfold maxLen; omega
  go_enter Tryd.func24, Tryd.ntmps24
  go_wp2
  go_loopw [4, 5] (fun v i wr => ∃ (p f : Nat) (acc : List Int), i = .int .i64 p ∧ Reads s.data.toList p f acc ∧ OwnI wr w.heap.size v acc ∧ Below w.heap.size w wr) (fun _ i _ => s.size - (intOf i).toNat)
  case atStart => exact ⟨0, _, [], rfl, Reads.start _, OwnI.lit w w.heap.size 0 #[] (Nat.le_refl _) (by decide) rfl, (Below.refl _ _).alloc (Nat.le_refl _) _⟩
  case round =>
    obtain ⟨p, f, acc, rfl, hr, ho, hb⟩ := hrel
    have HR := Lib.hid hr
    have HO := Lib.hid ho
    have HB := Lib.hid hb
    have hpl := hr.2.2.2.1
    have hal := hr.2.2.1
    rw [h3] at hpl
    clear hr ho hb
    by_cases hlt : p < s.size
    · cases hd : decL (s.data.toList.drop p) with
      | none =>
        have HN := Lib.hid (HR.out.bad (by rw [h3]; exact hlt) hd)
        have HC := Lib.hid (sdecq_no s p wr hmx (Or.inr (by rw [Int.toNat_natCast]; exact hd)))
        clear hd
        go_wp2_with fail
        refine HC.out.mono ?_
        rintro e w1 ⟨rfl, rfl⟩
        go_wp2
        go_ret2
        exact .inr ⟨_, HN.out, rfl, OwnI.lit wr w.heap.size 0 #[] HB.out.size (by decide) rfl, HB.out.alloc HB.out.size _⟩
      | some nk =>
        obtain ⟨n, k⟩ := nk
        obtain ⟨g, rfl, hr2⟩ := HR.out.step (by rw [h3]; exact hlt) hd
        have HR2 := Lib.hid hr2
        have HC := Lib.hid (sdecq_yes s p n k wr hmx hd)
        have hk := (decL_some hd).1
        clear hd hr2
        go_wp2_with fail
        refine HC.out.mono ?_
        rintro e w1 ⟨rfl, rfl⟩
        have hcell : (wr.alloc (.cells #[.int .i64 (n : Int)] 3)).cell? ⟨wr.heap.size, 0, none⟩ = some (.int .i64 (n : Int)) := by
          rw [World.cell?_alloc_at _ _ _ _ rfl]; rfl
        have HX := Lib.hid hcell
        clear hcell
        go_wp2_with (at_builtin; refine wpList_append_int _ rfl _ _ rfl w.heap.size _ acc rfl (HO.out.alloc _) wr.heap.size 1 (n : Int) rfl HX.out ?c1 ?c2 ?_)
        case c1 => omega
        case c2 => have := HB.out.size; simp; omega
        intro v' w2 ho2 hb2
        have HO2 := Lib.hid ho2
        have HB2 := Lib.hid ((HB.out.alloc HB.out.size _).trans hb2)
        clear ho2 hb2
        go_wp2
        go_roundw
        case rel => exact ⟨p + k, g, _, by go_num, HR2.out, HO2.out, HB2.out⟩
        case measure => simp [intOf]; omega
    · have HD := Lib.hid (HR.out.done (by rw [h3]; exact hlt))
      go_wp2
      go_ret2
      exact .inl ⟨_, _, HD.out, by omega, rfl, HO.out, HB.out⟩
end Go.Proofs.YthigojonagocgaaDoor
