/-
  What impl.frameType, frameNumber and kindOfType return; the fields of a kind in a block whose type is known.
-/
import Derived.Test.YtjbppociogoopaaDoorIFr2
namespace Go.Proofs.YtjbppociogoopaaDoor
open Go.RowKit Go.Deep Go.Proofs.YtjbppociogoopaaDoor.Num

/-- A row of fields in a block that is new since K, of the fields' type. -/
def Flds (w : World) (K : Nat) (A : Option Addr) (l : List Int) : Prop := ∀ j, j < l.length → ∃ g, A = some ⟨g, 0, none⟩ ∧ K ≤ g ∧ g < w.heap.size ∧ w.heap[g]? = some (.cells (cellsN l) 67 (0, 0))
theorem Flds.nums {w : World} {K : Nat} {A : Option Addr} {l : List Int} (h : Flds w K A l) : Nums w K A l := fun j hj => by
  obtain ⟨g, e, hk, hg, hc⟩ := h j hj
  refine ⟨g, e, hk, hg, ?_⟩
  rw [cell_of_row _ _ j _ _ _ hc]
  simp [cellsN, hj]
theorem Flds.kept {w w' : World} {K : Nat} {A : Option Addr} {l : List Int} (h : Flds w K A l) (hs : w.heap.size ≤ w'.heap.size) (hb : ∀ g, K ≤ g → g < w.heap.size → (∀ cs fz, w.heap[g]? ≠ some (.cells cs 5 fz)) → w'.heap[g]? = w.heap[g]?) : Flds w' K A l := fun j hj => by
  obtain ⟨g, e, hk, hg, hc⟩ := h j hj
  refine ⟨g, e, hk, Nat.lt_of_lt_of_le hg hs, (hb g hk hg (fun cs fz h => ?_)).trans hc⟩
  rw [hc] at h
  injection h with h
  injection h with _ h _
  exact absurd h (by decide)
theorem Flds.below {w w' : World} {K : Nat} {A : Option Addr} {l : List Int} (h : Flds w K A l) (hb : Below w.heap.size w w') : Flds w' K A l := h.kept hb.size fun g _ hg _ => hb.block g hg
theorem Flds.lit (w : World) (l : List Int) : Flds (w.alloc (.cells (cellsN l) 67)) w.heap.size (some ⟨w.heap.size, 0, none⟩) l := fun _ _ =>
  ⟨w.heap.size, rfl, Nat.le_refl _, by simp, heap_alloc_new w _⟩

set_option maxRecDepth 100000 in
/-- impl.kindFields -/
theorem iflds (k : Int) (w : World) :
    Calls Tryd.prog 45 #[.int .i64 k] w fun e w' => (∃ A cap, e = .returned (.slice A (fieldsK k).length cap) ∧ Flds w' w.heap.size A (fieldsK k)) ∧ Below w.heap.size w w' := by
  by_cases h : isK k
  · rcases h with rfl | rfl | rfl | rfl | rfl | rfl | rfl | rfl | rfl
    all_goals (
      go_enter Tryd.func45, Tryd.ntmps45
      go_wp2
      go_ret
      exact ⟨⟨_, _, rfl, Flds.lit w _⟩, (Below.refl _ _).alloc (Nat.le_refl _) _⟩)
  · have hn : fieldsK k = [] := by
      unfold isK at h
      unfold fieldsK
      repeat rw [if_neg (by omega)]
    rw [hn]
    unfold isK at h
    have e1 : (k == 4) = false := by simp; omega
    have e2 : (k == 5) = false := by simp; omega
    have e3 : (k == 8) = false := by simp; omega
    have e4 : (k == 16) = false := by simp; omega
    have e5 : (k == 17) = false := by simp; omega
    have e6 : (k == 18) = false := by simp; omega
    have e7 : (k == 20) = false := by simp; omega
    have e8 : (k == 21) = false := by simp; omega
    have e9 : (k == 22) = false := by simp; omega
    clear h hn
    go_enter Tryd.func45, Tryd.ntmps45
    go_wp2
    go_ret
    exact ⟨⟨_, _, rfl, fun j hj => absurd hj (by simp)⟩, Below.refl _ _⟩

/-- The fields that are numbers. -/
def isN (i : Int) : Prop := i = 0 ∨ i = 1 ∨ i = 4 ∨ i = 5 ∨ i = 6
set_option maxRecDepth 100000 in
/-- impl.frameNumber -/
theorem inumber (g : Nat) (i : Int) (h : isN i) (w : World) :
    Calls Tryd.prog 72 #[.pointer (some ⟨g, 0, none⟩), .int .i64 i] w fun e w' => e = .returned (.pointer (some ⟨g, i.toNat + 1, none⟩)) ∧ w' = w := by
  rcases h with rfl | rfl | rfl | rfl | rfl
  all_goals (
    go_enter Tryd.func72, Tryd.ntmps72
    go_wp2
    go_ret
    exact ⟨rfl, rfl⟩)

theorem u8_8_2 : bits .or .u8 8 2 = 10 := by decide
theorem u8_10_4 : bits .or .u8 10 4 = 14 := by decide
theorem u8_10_1 : bits .or .u8 10 1 = 11 := by decide
theorem u8_14_1 : bits .or .u8 14 1 = 15 := by decide
theorem u8_18_1 : bits .or .u8 18 1 = 19 := by decide
theorem u8_22_1 : bits .or .u8 22 1 = 23 := by decide
set_option maxRecDepth 100000 in
set_option maxHeartbeats 2000000 in
/-- impl.frameType -/
theorem itype (f : Fr) (w : World) (hok : okF f) :
    Calls Tryd.prog 44 #[frV f] w fun e w' => e = .returned (.int .u8 (typF f)) ∧ Below w.heap.size w w' := by
  have b1 := u8_8_2
  have b2 := u8_10_4
  have b3 := u8_10_1
  have b4 := u8_14_1
  have b5 := u8_18_1
  have b6 := u8_22_1
  obtain ⟨hk, hu, _⟩ := hok
  obtain ⟨k, st, ofs, dt, fi, co, li, fl, un⟩ := f
  have hk' : isK k := hk
  clear hk
  unfold usedF at hu
  simp only [Fr.mk.injEq] at hu
  obtain ⟨_, _, ho, _, hf, _, _, _, hun⟩ := hu
  rcases hk' with rfl | rfl | rfl | rfl | rfl | rfl | rfl | rfl | rfl
  case inr.inr.inl =>
    obtain rfl : un = false := by simpa using hun.symm
    clear ho hf hun
    by_cases h0 : ofs = 0
    · subst h0
      cases fi
      all_goals (
        go_enter Tryd.func44, Tryd.ntmps44
        go_wp2
        go_ret
        exact ⟨rfl, (Below.refl _ _).alloc (Nat.le_refl _) _⟩)
    · have hb0 : (ofs != 0) = true := by simpa using h0
      have HT : Hid (typF ⟨8, st, ofs, dt, fi, co, li, fl, false⟩ = if fi = true then 15 else 14) := Lib.hid (by
        unfold typF
        rw [if_pos rfl, if_neg h0])
      clear h0
      cases fi
      all_goals (
        go_enter Tryd.func44, Tryd.ntmps44
        go_wp2
        go_ret
        exact ⟨by rw [HT.out]; rfl, (Below.refl _ _).alloc (Nat.le_refl _) _⟩)
  case inr.inr.inr.inr.inr.inl =>
    obtain rfl : ofs = 0 := by simpa using ho.symm
    obtain rfl : fi = false := by simpa using hf.symm
    clear ho hf hun
    cases un
    all_goals (
      go_enter Tryd.func44, Tryd.ntmps44
      go_wp2
      go_ret
      exact ⟨rfl, (Below.refl _ _).alloc (Nat.le_refl _) _⟩)
  case inr.inr.inr.inr.inr.inr.inr.inr =>
    obtain rfl : ofs = 0 := by simpa using ho.symm
    obtain rfl : fi = false := by simpa using hf.symm
    clear ho hf hun
    cases un
    all_goals (
      go_enter Tryd.func44, Tryd.ntmps44
      go_wp2
      go_ret
      exact ⟨rfl, (Below.refl _ _).alloc (Nat.le_refl _) _⟩)
  all_goals (
    obtain rfl : ofs = 0 := by simpa using ho.symm
    obtain rfl : fi = false := by simpa using hf.symm
    obtain rfl : un = false := by simpa using hun.symm
    clear ho hf hun
    go_enter Tryd.func44, Tryd.ntmps44
    go_wp2
    go_ret
    exact ⟨rfl, (Below.refl _ _).alloc (Nat.le_refl _) _⟩)

theorem not7 : ∀ c : Fin 256, bits .andNot .u8 (c.val : Int) 7 = ((c.val - c.val % 8 : Nat) : Int) := by decide +kernel
theorem not1 : ∀ c : Fin 256, bits .andNot .u8 (c.val : Int) 1 = ((c.val - c.val % 2 : Nat) : Int) := by decide +kernel
set_option maxRecDepth 100000 in
/-- impl.kindOfType -/
theorem ikind (c : Nat) (hc : c < 256) (w : World) :
    Calls Tryd.prog 49 #[.int .u8 (c : Int)] w fun e w' => e = .returned (.int .i64 (kinT c)) ∧ w' = w := by
  have h7 := not7 ⟨c, hc⟩
  have h1 := not1 ⟨c, hc⟩
  dsimp only at h7 h1
  obtain ⟨x, hx⟩ : ∃ x : Int, ((c - c % 8 : Nat) : Int) = x := ⟨_, rfl⟩
  obtain ⟨y, hy⟩ : ∃ y : Int, ((c - c % 2 : Nat) : Int) = y := ⟨_, rfl⟩
  rw [hx] at h7
  rw [hy] at h1
  by_cases ha : 8 ≤ c ∧ c < 16
  · have HR : Hid (kinT c = 8) := Lib.hid (by unfold kinT; rw [if_pos ha])
    have e8 : (x == 8) = true := by simp; omega
    clear ha hx hy
    go_enter Tryd.func49, Tryd.ntmps49
    go_wp2
    go_ret
    exact ⟨by rw [HR.out]; rfl, rfl⟩
  · have e8 : (x == 8) = false := by simp; omega
    by_cases hb : c = 18 ∨ c = 19
    · have HR : Hid (kinT c = 18) := Lib.hid (by unfold kinT; rw [if_neg ha, if_pos hb])
      obtain rfl : y = 18 := by omega
      clear ha hx hy hb
      go_enter Tryd.func49, Tryd.ntmps49
      go_wp2
      go_ret
      exact ⟨by rw [HR.out]; rfl, rfl⟩
    · have e18 : (y == 18) = false := by simp; omega
      by_cases hd : c = 22 ∨ c = 23
      · have HR : Hid (kinT c = 22) := Lib.hid (by unfold kinT; rw [if_neg ha, if_neg hb, if_pos hd])
        obtain rfl : y = 22 := by omega
        clear ha hx hy hb hd
        go_enter Tryd.func49, Tryd.ntmps49
        go_wp2
        go_ret
        exact ⟨by rw [HR.out]; rfl, rfl⟩
      · have HR : Hid (kinT c = c) := Lib.hid (by unfold kinT; rw [if_neg ha, if_neg hb, if_neg hd])
        have e22 : (y == 22) = false := by simp; omega
        have hw : wrap64 (c : Int) = (c : Int) := by unfold wrap64; omega
        clear ha hx hy hb hd
        go_enter Tryd.func49, Tryd.ntmps49
        go_wp2
        go_ret
        exact ⟨by rw [HR.out]; first | rfl | (congr 2; rw [IntKind.wrap_i64]; omega), rfl⟩
end Go.Proofs.YtjbppociogoopaaDoor
