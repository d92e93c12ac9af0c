/-
  Rows of ranges of the call's own that begin anywhere in their block, and the laws' marks on them.
-/
import Derived.Test.YtjgabiklmloogaaRgAid
namespace Go.Proofs.Ytjgabiklmloogaa
open Go.RowKit Go.Deep Go.Proofs.Ytjgabiklmloogaa.Num

/-- The slice v is the call's own from block 'base' on and holds these ranges, wherever it begins. -/
def OwnS (w : World) (base : Nat) (v : Value) (l : List Rg) : Prop := ∃ A cap, v = .slice A l.length cap ∧ l.length ≤ cap ∧ ∀ j (hj : j < l.length), ∃ g off, A = some ⟨g, off, none⟩ ∧ base ≤ g ∧ g < w.heap.size ∧
  w.cell? ⟨g, off + j * 2, none⟩ = some (.int .i64 l[j].1) ∧ w.cell? ⟨g, off + j * 2 + 1, none⟩ = some (.int .i64 l[j].2) ∧ ∀ k, w.frozen? ⟨g, k, none⟩ = false
theorem OwnR.any {w : World} {base : Nat} {v : Value} {l : List Rg} (h : OwnR w base v l) : OwnS w base v l := by
  have h0 := h
  obtain ⟨_, h⟩ := h
  rcases h with ⟨rfl, hn⟩ | ⟨g, cap, cur, rfl, hb, hg, hle, _, _, _⟩
  · obtain rfl : l = [] := List.eq_nil_of_length_eq_zero hn
    exact ⟨none, 0, rfl, by simp, fun j hj => by cases hj⟩
  · have hr := OwnR.row h0
    refine ⟨_, cap, rfl, hle, fun j hj => ⟨g, 0, rfl, hb, hr.ge.2, ?_, ?_, hr.free⟩⟩
    · rw [Nat.zero_add]; exact (hr.cells j hj).1
    · rw [Nat.zero_add]; exact (hr.cells j hj).2
theorem OwnS.rgs {w : World} {base : Nat} {v : Value} {l : List Rg} (h : OwnS w base v l) : ∃ A cap, v = .slice A l.length cap ∧ l.length ≤ cap ∧ Rgs w w.heap.size A l := by
  obtain ⟨A, cap, rfl, hc, hh⟩ := h
  exact ⟨A, cap, rfl, hc, fun j hj => by obtain ⟨g, off, h1, h2, h3, h4, h5, h6⟩ := hh j hj; exact ⟨g, off, h1, h3, h4, h5⟩⟩
theorem OwnS.same {w w' : World} {base : Nat} {v : Value} {l : List Rg} (h : OwnS w base v l) (hs : w.heap.size ≤ w'.heap.size) (hb : ∀ k, base ≤ k → k < w.heap.size → w'.heap[k]? = w.heap[k]?) : OwnS w' base v l := by
  obtain ⟨A, cap, rfl, hc, hh⟩ := h
  refine ⟨A, cap, rfl, hc, fun j hj => ?_⟩
  obtain ⟨g, off, h1, h2, h3, h4, h5, h6⟩ := hh j hj
  exact ⟨g, off, h1, h2, by omega, (World.cell?_of_block (hb g h2 h3)).trans h4, (World.cell?_of_block (hb g h2 h3)).trans h5, fun k => (World.frozen?_of_block (hb g h2 h3)).trans (h6 k)⟩
theorem OwnS.later {w w' : World} {base : Nat} {v : Value} {l : List Rg} (h : OwnS w base v l) (hb : Below w.heap.size w w') : OwnS w' base v l := h.same hb.size fun k _ hk => hb.block k hk
theorem OwnS.only {w w' : World} {base g : Nat} {v : Value} {l : List Rg} (h : OwnS w base v l) (hg : w.grownBy w' (some g)) (hb : g < base) : OwnS w' base v l :=
  h.same hg.size fun k h1 h2 => hg.block k h2 (by intro e; injection e with e; omega)
theorem OwnS.weaken {w : World} {base base' : Nat} {v : Value} {l : List Rg} (h : OwnS w base v l) (hb : base' ≤ base) : OwnS w base' v l := by
  obtain ⟨A, cap, rfl, hc, hh⟩ := h
  refine ⟨A, cap, rfl, hc, fun j hj => ?_⟩
  obtain ⟨g, off, h1, h2, h3, h4⟩ := hh j hj
  exact ⟨g, off, h1, by omega, h3, h4⟩
/-- Block g holds the range x, and is there. -/
def RBox (w : World) (g : Nat) (x : Rg) : Prop := RCell w g 0 x ∧ g < w.heap.size
theorem RBox.below {w w' : World} {g K : Nat} {x : Rg} (h : RBox w g x) (hb : Below K w w') (hk : g < K) : RBox w' g x := ⟨h.1.below hb hk, Nat.lt_of_lt_of_le h.2 hb.size⟩
theorem RBox.later {w w' : World} {g : Nat} {x : Rg} (h : RBox w g x) (hb : Below w.heap.size w w') : RBox w' g x := h.below hb h.2
theorem RBox.only {w w' : World} {g g' : Nat} {x : Rg} (h : RBox w g x) (hg : w.grownBy w' (some g')) (hne : g ≠ g') : RBox w' g x :=
  ⟨⟨(World.cell?_of_block (hg.block g h.2 (by intro e; injection e with e; exact hne e))).trans h.1.1, (World.cell?_of_block (hg.block g h.2 (by intro e; injection e with e; exact hne e))).trans h.1.2⟩, Nat.lt_of_lt_of_le h.2 hg.size⟩
/-- A row of ranges at a place of block g. -/
structure SRow (w : World) (base g off : Nat) (l : List Rg) : Prop where
  ge : base ≤ g ∧ g < w.heap.size
  cells : ∀ j (hj : j < l.length), w.cell? ⟨g, off + j * 2, none⟩ = some (.int .i64 l[j].1) ∧ w.cell? ⟨g, off + j * 2 + 1, none⟩ = some (.int .i64 l[j].2)
  free : ∀ k, w.frozen? ⟨g, k, none⟩ = false
theorem setCell_at {w : World} {a b : Addr} (h : a ≠ b) (v : Value) : (w.setCell a v).cell? b = w.cell? b := by
  apply World.cell?_setCell_other
  exact h
theorem SRow.store {w : World} {base g off : Nat} {l : List Rg} (s : SRow w base g off l) (j : Nat) (hj : j < l.length) (a b : Int) : SRow ((w.setCell ⟨g, off + j * 2, none⟩ (.int .i64 a)).setCell ⟨g, off + j * 2 + 1, none⟩ (.int .i64 b)) base g off (l.set j (a, b)) := by
  refine ⟨by simpa [World.setCell] using s.ge, fun i hi => ?_, fun k => ?_⟩
  · have hil : i < l.length := by simpa using hi
    obtain ⟨c1, c2⟩ := s.cells i hil
    by_cases h : i = j
    · subst h
      rw [List.getElem_set_self]
      constructor
      · rw [setCell_at (by intro e; injection e with _ e; omega)]
        exact World.cell?_setCell_same' _ _ _ (by rw [c1]; rfl)
      · refine World.cell?_setCell_same' _ _ _ ?_
        rw [setCell_at (by intro e; injection e with _ e; omega), c2]; rfl
    · rw [List.getElem_set_ne (by omega)]
      constructor
      · rw [setCell_at (by intro e; injection e with _ e; omega), setCell_at (by intro e; injection e with _ e; omega)]; exact c1
      · rw [setCell_at (by intro e; injection e with _ e; omega), setCell_at (by intro e; injection e with _ e; omega)]; exact c2
  · rw [World.frozen?_setCell, World.frozen?_setCell]
    exact s.free k

set_option maxRecDepth 100000 in
/-- laws.markRangeS, on such a row. -/
theorem markat (l : List Rg) (k : Int) (base g off cap : Nat) (w : World) (ho : SRow w base g off l) (hn : l.length ≤ 1000000000000) (hk : 0 ≤ k ∧ k ≤ 1000000000000) :
    Calls Try.prog 32 #[.slice (some ⟨g, off, none⟩) l.length cap, .int .i64 k] w fun e w' => e = .returned (.int .i64 (k + 2 * (l.length : Int))) ∧ SRow w' base g off (marksR k l.length) ∧ Below base w w' := by
  have HO := Lib.hid ho
  have hbg := ho.ge.1
  clear ho
  go_enter Try.func32, Try.ntmps32
  go_wp2
  go_loopw [1, 5] (fun kk i wr => ∃ (j : Nat) (m : List Rg), j ≤ l.length ∧ i = .int .i64 j ∧ kk = .int .i64 (k + 2 * (j : Int)) ∧ SRow wr base g off m ∧ m.length = l.length ∧ m.take j = (marksR k l.length).take j ∧ Below base w wr) (fun _ i _ => l.length - (intOf i).toNat)
  case atStart => exact ⟨0, l, Nat.zero_le _, rfl, by simp, HO.out, rfl, rfl, Below.refl _ _⟩
  case round =>
    obtain ⟨j, m, hj, rfl, rfl, hown, hlen, ht, hb⟩ := hrel
    have HW := Lib.hid hown
    have HB := Lib.hid hb
    have HT := Lib.hid ht
    have HN := Lib.hid hlen
    clear hown hb ht hlen
    by_cases hlt : j < l.length
    · have hjm : j < m.length := by rw [HN.out]; exact hlt
      have hjk : j < (marksR k l.length).length := by rw [marksR_len]; exact hlt
      obtain ⟨q1, q2⟩ := HW.out.cells j hjm
      have hfz := HW.out.free
      have HS := Lib.hid (set_take (l := marksR k l.length) (m := m) (by rw [marksR_len]; exact HN.out) HT.out hjk _ (marksR_at l.length k j hjk))
      have hw1 : IntKind.i64.wrap (k + 2 * (j : Int) + 1) = k + 2 * (j : Int) + 1 := by rw [IntKind.wrap_i64]; omega
      have hw2 : IntKind.i64.wrap (k + 2 * (j : Int) + 1 + 1) = k + 2 * ((j + 1 : Nat) : Int) := by rw [IntKind.wrap_i64]; omega
      go_wp2
      go_roundw
      case rel => exact ⟨j + 1, _, hlt, by go_num, rfl, HW.out.store j hjm (k + 2 * (j : Int)) (k + 2 * (j : Int) + 1), by rw [List.length_set]; exact HN.out, HS.out, (HB.out.setCell (p := ⟨_, _, _⟩) hbg _).setCell (p := ⟨_, _, _⟩) hbg _⟩
      case measure => simp [intOf]; omega
    · obtain rfl : j = l.length := by omega
      have HE : Hid (m = marksR k l.length) := Lib.hid (by
        have h := HT.out
        rw [List.take_of_length_le (by rw [HN.out]; exact Nat.le_refl _), List.take_of_length_le (by rw [marksR_len]; exact Nat.le_refl _)] at h
        exact h)
      rw [HE.out] at HW
      go_wp2
      go_ret
      exact ⟨rfl, HW.out, HB.out⟩

set_option maxRecDepth 100000 in
/-- laws.markRangeS, on a slice without elements. -/
theorem markzero (A : Option Addr) (cap : Nat) (k : Int) (w : World) :
    Calls Try.prog 32 #[.slice A 0 cap, .int .i64 k] w fun e w' => e = .returned (.int .i64 k) ∧ w' = w := by
  go_enter Try.func32, Try.ntmps32
  go_wp2
  go_loop [1, 5] (fun kk i => i = .int .i64 0 ∧ kk = .int .i64 k) (fun _ i => (intOf i).toNat)
  case atStart => exact ⟨rfl, rfl⟩
  case round =>
    obtain ⟨rfl, rfl⟩ := hrel
    go_wp2
    go_ret
    exact ⟨rfl, rfl⟩

/-- The marks of such a slice. -/
theorem markS (l : List Rg) (k : Int) (v : Value) (base : Nat) (w : World) (ho : OwnS w base v l) (hn : l.length ≤ 1000000000000) (hk : 0 ≤ k ∧ k ≤ 1000000000000) :
    Calls Try.prog 32 #[v, .int .i64 k] w fun e w' => e = .returned (.int .i64 (k + 2 * (l.length : Int))) ∧ OwnS w' base v (marksR k l.length) ∧ Below base w w' := by
  obtain ⟨A, cap, rfl, hc, hh⟩ := ho
  cases l with
  | nil =>
    refine (markzero A cap k w).mono ?_
    rintro e w' ⟨rfl, rfl⟩
    exact ⟨by simp, ⟨A, cap, rfl, hc, fun j hj => by cases hj⟩, Below.refl _ _⟩
  | cons x l =>
    obtain ⟨g, off, rfl, h2, h3, _, _, h6⟩ := hh 0 (by simp)
    have hs : SRow w base g off (x :: l) := ⟨⟨h2, h3⟩, fun j hj => by
      obtain ⟨g', off', e, _, _, h4, h5, _⟩ := hh j hj
      injection e with e
      injection e with e1 e2 _
      subst e1
      subst e2
      exact ⟨h4, h5⟩, h6⟩
    refine (markat (x :: l) k base g off cap w hs hn hk).mono ?_
    rintro e w' ⟨rfl, h1, h2⟩
    refine ⟨rfl, ⟨_, cap, by rw [marksR_len], by rw [marksR_len]; exact hc, fun j hj => ⟨g, off, rfl, h1.ge.1, h1.ge.2, (h1.cells j hj).1, (h1.cells j hj).2, h1.free⟩⟩, h2⟩
end Go.Proofs.Ytjgabiklmloogaa
