/-
  What impl.kindFields, slices.Index, slices.Contains and impl.IsAboutStream return.
-/
import Derived.Test.YtjbppociogoopaaDoorSFr1
import Derived.Test.YtjbppociogoopaaDoorFrI
namespace Go.Proofs.YtjbppociogoopaaDoor
open Go.RowKit Go.Deep Go.Proofs.YtjbppociogoopaaDoor.Num

/-- A row of numbers in a block that is new since K, at the end of which nothing is asked. -/
def Nums (w : World) (K : Nat) (A : Option Addr) (l : List Int) : Prop := ∀ j (hj : j < l.length), ∃ g, A = some ⟨g, 0, none⟩ ∧ K ≤ g ∧ g < w.heap.size ∧ w.cell? ⟨g, j, none⟩ = some (.int .i64 l[j])
theorem Nums.kept {w w' : World} {K : Nat} {A : Option Addr} {l : List Int} (h : Nums w K A l) (hs : w.heap.size ≤ w'.heap.size) (hb : ∀ g, K ≤ g → g < w.heap.size → w'.heap[g]? = w.heap[g]?) : Nums w' K A l := fun j hj => by
  obtain ⟨g, e, hk, hg, hc⟩ := h j hj
  exact ⟨g, e, hk, Nat.lt_of_lt_of_le hg hs, (World.cell?_of_block (hb g hk hg)).trans hc⟩
theorem Nums.below {w w' : World} {K : Nat} {A : Option Addr} {l : List Int} (h : Nums w K A l) (hb : Below w.heap.size w w') : Nums w' K A l := h.kept hb.size fun g _ hg => hb.block g hg
/-- The cells of a list of numbers. -/
def cellsN (l : List Int) : Array Value := (l.map fun i => Value.int .i64 i).toArray
theorem Nums.lit (w : World) (l : List Int) (t : TypeId) : Nums (w.alloc (.cells (cellsN l) t)) w.heap.size (some ⟨w.heap.size, 0, none⟩) l := fun j hj => by
  refine ⟨w.heap.size, rfl, Nat.le_refl _, by simp, ?_⟩
  rw [cell_of_row _ _ j _ _ _ (heap_alloc_new w (.cells (cellsN l) t))]
  simp [cellsN, hj]

set_option maxRecDepth 100000 in
/-- impl.kindFields -/
theorem ifields (k : Int) (w : World) :
    Calls Tryd.prog 45 #[.int .i64 k] w fun e w' => (∃ A cap, e = .returned (.slice A (fieldsK k).length cap) ∧ Nums w' w.heap.size A (fieldsK k)) ∧ Below w.heap.size w w' := by
  by_cases h : isK k
  · rcases h with rfl | rfl | rfl | rfl | rfl | rfl | rfl | rfl | rfl
    all_goals (
      go_enter Tryd.func45, Tryd.ntmps45
      go_wp2
      go_ret
      exact ⟨⟨_, _, rfl, Nums.lit w _ _⟩, (Below.refl _ _).alloc (Nat.le_refl _) _⟩)
  · have hn : fieldsK k = [] := by
      unfold isK at h
      unfold fieldsK
      repeat rw [if_neg (by omega)]
    rw [hn]
    unfold isK at h
    have e1 : (k == 4) = false := by simp; omega
    have e2 : (k == 5) = false := by simp; omega
    have e3 : (k == 8) = false := by simp; omega
    have e4 : (k == 16) = false := by simp; omega
    have e5 : (k == 17) = false := by simp; omega
    have e6 : (k == 18) = false := by simp; omega
    have e7 : (k == 20) = false := by simp; omega
    have e8 : (k == 21) = false := by simp; omega
    have e9 : (k == 22) = false := by simp; omega
    clear h hn
    go_enter Tryd.func45, Tryd.ntmps45
    go_wp2
    go_ret
    exact ⟨⟨_, _, rfl, fun j hj => absurd hj (by simp)⟩, Below.refl _ _⟩
end Go.Proofs.YtjbppociogoopaaDoor
