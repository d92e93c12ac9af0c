/-
  What impl.formAt returns: the form that begins at a place of the string, or the zero form.
-/
import Derived.Test.YtjbppociogoopaaDoorForms
namespace Go.Proofs.YtjbppociogoopaaDoor
open Go.RowKit Go.Deep Go.Proofs.YtjbppociogoopaaDoor.Num

set_option maxRecDepth 100000 in
set_option maxHeartbeats 400000 in
/-- impl.formAt, where a form begins there. -/
theorem iform_yes (s : ByteArray) (a n k : Nat) (w : World) (hF : Forms w) (hs : s.size ≤ maxLen) (h : decL (s.data.toList.drop a) = some (n, k)) :
    Calls Tryd.prog 85 #[.string s, .int .i64 a] w fun e w' => e = .returned (formV k) ∧ Below w.heap.size w w' := by
  unfold maxLen at hs
  have h3 : s.data.toList.length = s.size := by simp
  have hk := decL_some h
  have hl : k + a ≤ s.size := by
    have h2 := hk.2.1
    rw [List.length_drop, h3] at h2
    omega
  have ha : a < s.size := by omega
  rw [drop_at s a ha] at h
  have e1 := (decL_parts h).1
  have hq := qlen_quot s[a]
  rw [← e1] at hq
  have hge : ¬ (s.size : Int) ≤ (a : Int) := by omega
  have hcut : ¬ ((s.size : Int) - (a : Int) < (k : Int)) := by omega
  clear h h3 hk e1
  have hal : ∀ o : Obj, Forms (w.alloc o) := fun o => hF.alloc o
  have c0 : ∀ o : Obj, (w.alloc o).cell? ⟨0, 0, none⟩ = some (.int .u8 0) := fun o => (hal o).2 0 (by decide)
  have c1 : ∀ o : Obj, (w.alloc o).cell? ⟨0, 1, none⟩ = some (.int .i64 1) := fun o => (hal o).2 1 (by decide)
  have c2 : ∀ o : Obj, (w.alloc o).cell? ⟨0, 2, none⟩ = some (.int .i64 63) := fun o => (hal o).2 2 (by decide)
  have c3 : ∀ o : Obj, (w.alloc o).cell? ⟨0, 3, none⟩ = some (.int .u8 64) := fun o => (hal o).2 3 (by decide)
  have c4 : ∀ o : Obj, (w.alloc o).cell? ⟨0, 4, none⟩ = some (.int .i64 2) := fun o => (hal o).2 4 (by decide)
  have c5 : ∀ o : Obj, (w.alloc o).cell? ⟨0, 5, none⟩ = some (.int .i64 16383) := fun o => (hal o).2 5 (by decide)
  have c6 : ∀ o : Obj, (w.alloc o).cell? ⟨0, 6, none⟩ = some (.int .u8 128) := fun o => (hal o).2 6 (by decide)
  have c7 : ∀ o : Obj, (w.alloc o).cell? ⟨0, 7, none⟩ = some (.int .i64 4) := fun o => (hal o).2 7 (by decide)
  have c8 : ∀ o : Obj, (w.alloc o).cell? ⟨0, 8, none⟩ = some (.int .i64 1073741823) := fun o => (hal o).2 8 (by decide)
  have c9 : ∀ o : Obj, (w.alloc o).cell? ⟨0, 9, none⟩ = some (.int .u8 192) := fun o => (hal o).2 9 (by decide)
  have c10 : ∀ o : Obj, (w.alloc o).cell? ⟨0, 10, none⟩ = some (.int .i64 8) := fun o => (hal o).2 10 (by decide)
  have c11 : ∀ o : Obj, (w.alloc o).cell? ⟨0, 11, none⟩ = some (.int .i64 4611686018427387903) := fun o => (hal o).2 11 (by decide)
  clear hal hF
  rcases hq with ⟨rfl, h64⟩ | ⟨rfl, h64⟩ | ⟨rfl, h64⟩ | ⟨rfl, h64⟩
  all_goals
    go_enter Tryd.func85, Tryd.ntmps85
    go_wp2
    (try simp only [Exit.inBlock, Exit.then])
    refine bodyPost_ret (results_cell_row rfl _ _ w.heap.size _ _ _ _ rfl (heap_alloc2_old w _ _) Tryd.underlying109 rfl sizeForm) rfl ?_
    exact ⟨rfl, ((Below.refl _ _).alloc (Nat.le_refl _) _).alloc (by simp) _⟩

set_option maxRecDepth 100000 in
set_option maxHeartbeats 400000 in
/-- impl.formAt, where none begins there. -/
theorem iform_no (s : ByteArray) (a : Int) (w : World) (hF : Forms w) (hs : s.size ≤ maxLen) (h : a < 0 ∨ decL (s.data.toList.drop a.toNat) = none) :
    Calls Tryd.prog 85 #[.string s, .int .i64 a] w fun e w' => e = .returned (formV 0) ∧ Below w.heap.size w w' := by
  have _h9 : s.size ≤ 2 ^ 63 - 1 := hs
  by_cases h0 : a < 0
  · clear h
    go_enter Tryd.func85, Tryd.ntmps85
    go_wp2
    (try simp only [Exit.inBlock, Exit.then])
    refine bodyPost_ret (results_cell_row rfl _ _ w.heap.size _ _ _ _ rfl (heap_alloc_new w _) Tryd.underlying109 rfl sizeForm) rfl ?_
    exact ⟨rfl, (Below.refl _ _).alloc (Nat.le_refl _) _⟩
  · obtain ⟨m, rfl⟩ := Int.eq_ofNat_of_zero_le (by omega : 0 ≤ a)
    by_cases hge : (s.size : Int) ≤ (m : Int)
    · clear h
      go_enter Tryd.func85, Tryd.ntmps85
      go_wp2
      (try simp only [Exit.inBlock, Exit.then])
      refine bodyPost_ret (results_cell_row rfl _ _ w.heap.size _ _ _ _ rfl (heap_alloc_new w _) Tryd.underlying109 rfl sizeForm) rfl ?_
      exact ⟨rfl, (Below.refl _ _).alloc (Nat.le_refl _) _⟩
    · have ha : m < s.size := by omega
      have h3 : s.data.toList.length = s.size := by simp
      have h : decL (s.data.toList.drop m) = none := by
        rcases h with h | h
        · omega
        · rwa [Int.toNat_natCast] at h
      rw [drop_at s m ha] at h
      have hk := decL_no h
      rw [List.length_drop, h3] at hk
      clear h h3
      have hq := qlen_quot s[m]
      generalize qlen s[m] = k at hk hq
      have hcut : (s.size : Int) - (m : Int) < (k : Int) := by omega
      clear hk
      have hal : ∀ o : Obj, Forms (w.alloc o) := fun o => hF.alloc o
      have c0 : ∀ o : Obj, (w.alloc o).cell? ⟨0, 0, none⟩ = some (.int .u8 0) := fun o => (hal o).2 0 (by decide)
      have c1 : ∀ o : Obj, (w.alloc o).cell? ⟨0, 1, none⟩ = some (.int .i64 1) := fun o => (hal o).2 1 (by decide)
      have c2 : ∀ o : Obj, (w.alloc o).cell? ⟨0, 2, none⟩ = some (.int .i64 63) := fun o => (hal o).2 2 (by decide)
      have c3 : ∀ o : Obj, (w.alloc o).cell? ⟨0, 3, none⟩ = some (.int .u8 64) := fun o => (hal o).2 3 (by decide)
      have c4 : ∀ o : Obj, (w.alloc o).cell? ⟨0, 4, none⟩ = some (.int .i64 2) := fun o => (hal o).2 4 (by decide)
      have c5 : ∀ o : Obj, (w.alloc o).cell? ⟨0, 5, none⟩ = some (.int .i64 16383) := fun o => (hal o).2 5 (by decide)
      have c6 : ∀ o : Obj, (w.alloc o).cell? ⟨0, 6, none⟩ = some (.int .u8 128) := fun o => (hal o).2 6 (by decide)
      have c7 : ∀ o : Obj, (w.alloc o).cell? ⟨0, 7, none⟩ = some (.int .i64 4) := fun o => (hal o).2 7 (by decide)
      have c8 : ∀ o : Obj, (w.alloc o).cell? ⟨0, 8, none⟩ = some (.int .i64 1073741823) := fun o => (hal o).2 8 (by decide)
      have c9 : ∀ o : Obj, (w.alloc o).cell? ⟨0, 9, none⟩ = some (.int .u8 192) := fun o => (hal o).2 9 (by decide)
      have c10 : ∀ o : Obj, (w.alloc o).cell? ⟨0, 10, none⟩ = some (.int .i64 8) := fun o => (hal o).2 10 (by decide)
      have c11 : ∀ o : Obj, (w.alloc o).cell? ⟨0, 11, none⟩ = some (.int .i64 4611686018427387903) := fun o => (hal o).2 11 (by decide)
      clear hal hF
      rcases hq with ⟨rfl, h64⟩ | ⟨rfl, h64⟩ | ⟨rfl, h64⟩ | ⟨rfl, h64⟩
      · omega
      all_goals
        go_enter Tryd.func85, Tryd.ntmps85
        go_wp2
        (try simp only [Exit.inBlock, Exit.then])
        refine bodyPost_ret (results_cell_row rfl _ _ w.heap.size _ _ _ _ rfl (heap_alloc2_old w _ _) Tryd.underlying109 rfl sizeForm) rfl ?_
        exact ⟨rfl, ((Below.refl _ _).alloc (Nat.le_refl _) _).alloc (by simp) _⟩
end Go.Proofs.YtjbppociogoopaaDoor
