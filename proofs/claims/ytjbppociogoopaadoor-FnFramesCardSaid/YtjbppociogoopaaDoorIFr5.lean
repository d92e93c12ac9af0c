/-
  What slices.Index, slices.Contains and impl.IsAboutStream return.
-/
import Derived.Test.YtjbppociogoopaaDoorIFr2
namespace Go.Proofs.YtjbppociogoopaaDoor
open Go.RowKit Go.Deep Go.Proofs.YtjbppociogoopaaDoor.Num

set_option maxRecDepth 100000 in
/-- slices.Index, of a 0 -/
theorem iindex (l : List Int) (A : Option Addr) (cap K : Nat) (w : World) (hN : Nums w K A l) (hn : l.length ≤ 4) :
    Calls Tryd.prog 81 #[.slice A l.length cap, .int .i64 0] w fun e w' => (∃ i : Int, e = .returned (.int .i64 i) ∧ (0 ≤ i ↔ (0 : Int) ∈ l)) ∧ w' = w := by
  have HN := Lib.hid hN
  clear hN
  go_enter Tryd.func81, Tryd.ntmps81
  go_wp2
  go_loop [8] (fun x => ∃ j : Nat, j ≤ l.length ∧ x = .int .i64 j ∧ (l.take j).contains 0 = false) (fun x => l.length - (intOf x).toNat)
  case atStart => exact ⟨0, Nat.zero_le _, rfl, rfl⟩
  case round =>
    obtain ⟨j, hj, rfl, hno⟩ := hrel
    have HO := Lib.hid hno
    clear hno
    by_cases hlt : j < l.length
    · obtain ⟨g, rfl, _, _, hc⟩ := HN.out j hlt
      by_cases h0 : l[j] = 0
      · have HR : Hid ((0 : Int) ∈ l) := Lib.hid (h0 ▸ List.getElem_mem hlt)
        have he : ((0 : Int) == l[j]) = true := by rw [h0]; rfl
        generalize l[j] = y at *
        clear h0
        go_wp2
        go_ret
        exact ⟨⟨_, rfl, fun _ => HR.out, fun _ => by omega⟩, rfl⟩
      · have HS : Hid ((l.take (j + 1)).contains 0 = false) := Lib.hid (by
          have h := HO.out
          rw [List.take_succ_eq_append_getElem hlt]
          simp only [List.contains_eq_mem, List.mem_append, List.mem_singleton, decide_eq_false_iff_not, not_or] at h ⊢
          exact ⟨h, fun e => h0 e.symm⟩)
        have he : ((0 : Int) == l[j]) = false := by simpa using fun e => h0 e.symm
        generalize l[j] = y at *
        clear h0
        go_wp2
        go_round
        case rel => exact ⟨j + 1, hlt, by go_num, HS.out⟩
        case measure => simp [intOf]; omega
    · obtain rfl : j = l.length := by omega
      have HR : Hid (¬ (0 : Int) ∈ l) := Lib.hid (by
        have h := HO.out
        rw [List.take_length] at h
        simpa using h)
      go_wp2
      go_ret
      exact ⟨⟨_, rfl, fun h => by omega, fun h => absurd h HR.out⟩, rfl⟩

set_option maxRecDepth 100000 in
/-- slices.Contains, of a 0 -/
theorem icontains (l : List Int) (A : Option Addr) (cap K : Nat) (w : World) (hN : Nums w K A l) (hn : l.length ≤ 4) :
    Calls Tryd.prog 62 #[.slice A l.length cap, .int .i64 0] w fun e w' => e = .returned (.bool (l.contains 0)) ∧ w' = w := by
  have HI := Lib.hid (iindex l A cap K w hN hn)
  clear hN
  go_enter Tryd.func62, Tryd.ntmps62
  go_wp2_with fail
  refine HI.out.mono ?_
  rintro e w1 ⟨⟨i, rfl, hi⟩, rfl⟩
  have HE : Hid (l.contains 0 = decide (0 ≤ i)) := Lib.hid (by rw [List.contains_eq_mem]; by_cases h : (0 : Int) ∈ l <;> simp [h, hi])
  clear hi
  go_wp2
  go_ret
  exact ⟨by rw [HE.out]; rfl, rfl⟩

set_option maxRecDepth 100000 in
/-- impl.IsAboutStream -/
theorem iabout (f : Fr) (w : World) :
    Calls Tryd.prog 23 #[frV f] w fun e w' => e = .returned (.bool (decide (aboutK f.kind))) ∧ Below w.heap.size w w' := by
  have HF := Lib.hid (ifields f.kind)
  have HB0 := Lib.hid ((Below.refl w.heap.size w).alloc (Nat.le_refl _) (.cells (frC f) 25))
  obtain ⟨q0, _⟩ := (BoxF.new w f).cells
  go_enter Tryd.func23, Tryd.ntmps23
  go_wp2_with fail
  refine (HF.out _).mono ?_
  rintro e w1 ⟨⟨A, cap, rfl, hN⟩, hb1⟩
  have HB1 := Lib.hid (HB0.out.trans (hb1.mono HB0.out.size))
  have HC := Lib.hid (icontains _ A cap _ w1 hN (fieldsK_len f.kind))
  rw [fieldsK_about] at HC
  clear hN hb1 q0
  go_wp2_with fail
  refine HC.out.mono ?_
  rintro e w2 ⟨rfl, rfl⟩
  go_wp2
  go_ret
  exact ⟨rfl, HB1.out⟩
end Go.Proofs.YtjbppociogoopaaDoor
