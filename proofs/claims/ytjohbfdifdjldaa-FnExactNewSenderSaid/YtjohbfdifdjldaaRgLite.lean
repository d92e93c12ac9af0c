/-
  Rows of ranges of the call's own; what laws.eqRange and eqRangeS return.
-/
import Derived.Test.YtjohbfdifdjldaaSRng
import Derived.Laws.OwnMore
namespace Go.Proofs.Ytjohbfdifdjldaa
open Go.RowKit Go.Deep Go.Proofs.Ytjohbfdifdjldaa.Num

theorem rg_third (w : World) (o1 o2 o3 : Obj) : (((w.alloc o1).alloc o2).alloc o3).heap[w.heap.size + 1]? = some o2 := by
  have h : (w.alloc o1).heap.size = w.heap.size + 1 := by simp
  rw [← h]
  exact (Below.heap_alloc _ _ _ (by simp)).trans (heap_alloc_new _ _)

/-- laws.eqRange -/
theorem eqrange (x y : Rg) (w : World) :
    Calls Try.prog 45 #[rgV x, rgV y] w fun e w' => e = .returned (.bool (decide (x = y))) ∧ Below w.heap.size w w' := by
  have hb := (((Below.refl w.heap.size w).alloc (Nat.le_refl _) (.cells #[.int .i64 x.1, .int .i64 x.2] 54)).alloc (by simp) (.cells #[.int .i64 y.1, .int .i64 y.2] 54))
  by_cases h1 : x.1 = y.1
  · have hd1 : (x.1 == y.1) = true := by simpa using h1
    by_cases h2 : x.2 = y.2
    · have hd2 : (x.2 == y.2) = true := by simpa using h2
      rw [decide_eq_true (Prod.ext h1 h2)]
      clear h1 h2
      go_enter Try.func45, Try.ntmps45
      go_wp2
      go_ret
      exact ⟨rfl, hb⟩
    · have hd2 : (x.2 == y.2) = false := by simpa using h2
      rw [decide_eq_false (fun h => h2 (by rw [h]))]
      clear h1 h2
      go_enter Try.func45, Try.ntmps45
      go_wp2
      go_ret
      exact ⟨rfl, hb⟩
  · have hd1 : (x.1 == y.1) = false := by simpa using h1
    rw [decide_eq_false (fun h => h1 (by rw [h]))]
    clear h1
    go_enter Try.func45, Try.ntmps45
    go_wp2
    go_ret
    exact ⟨rfl, hb⟩

/-- A row of n ranges in block g, the call's own. -/
def RowR (w : World) (base g n cap : Nat) (l : List Rg) : Prop := l.length = n ∧ w.ownsRow base 54 2 (.slice (some ⟨g, 0, none⟩) n cap) n (valsR l)
theorem RowR.own {w : World} {base g n cap : Nat} {l : List Rg} (h : RowR w base g n cap l) : OwnR w base (.slice (some ⟨g, 0, none⟩) n cap) l := by
  obtain ⟨rfl, h⟩ := h
  exact h
theorem OwnR.row {w : World} {base g cap : Nat} {l : List Rg} (h : OwnR w base (.slice (some ⟨g, 0, none⟩) l.length cap) l) : RowR w base g l.length cap l := ⟨rfl, h⟩
theorem RowR.ge {w : World} {base g n cap : Nat} {l : List Rg} (h : RowR w base g n cap l) : base ≤ g ∧ g < w.heap.size := World.ownsRow.lt h.2 g rfl
theorem RowR.cells {w : World} {base g n cap : Nat} {l : List Rg} (h : RowR w base g n cap l) (j : Nat) (hj : j < l.length) : w.cell? ⟨g, j * 2, none⟩ = some (.int .i64 l[j].1) ∧ w.cell? ⟨g, j * 2 + 1, none⟩ = some (.int .i64 l[j].2) := by
  have hn := h.1
  exact ⟨(World.ownsRow.cellAt h.2 (j * 2) (by omega)).trans (valsR_at l j hj).1, (World.ownsRow.cellAt h.2 (j * 2 + 1) (by omega)).trans (valsR_at l j hj).2⟩
theorem RowR.rgs {w : World} {base g n cap : Nat} {l : List Rg} (h : RowR w base g n cap l) : Rgs w w.heap.size (some ⟨g, 0, none⟩) l := fun j hj =>
  ⟨g, 0, rfl, h.ge.2, by rw [Nat.zero_add]; exact (h.cells j hj).1, by rw [Nat.zero_add]; exact (h.cells j hj).2⟩
theorem RowR.free {w : World} {base g n cap : Nat} {l : List Rg} (h : RowR w base g n cap l) (k : Nat) : w.frozen? ⟨g, k, none⟩ = false := World.ownsRow.frozenAt h.2 k
theorem RowR.later {w w' : World} {base g n cap : Nat} {l : List Rg} (h : RowR w base g n cap l) (hb : Below w.heap.size w w') : RowR w' base g n cap l := ⟨h.1, owns_later h.2 hb⟩
theorem RowR.alloc {w : World} {base g n cap : Nat} {l : List Rg} (h : RowR w base g n cap l) (o : Obj) : RowR (w.alloc o) base g n cap l := ⟨h.1, World.ownsRow.alloc h.2 o⟩
theorem valsR_set0 (l : List Rg) : ∀ j (h : j < l.length) (a : Int), (valsR l).set (j * 2) (.int .i64 a) = valsR (l.set j (a, l[j].2)) := by
  induction l with
  | nil => intro j h; cases h
  | cons x l ih =>
    intro j h a
    cases j with
    | zero => rfl
    | succ j =>
      have := ih j (by simpa using h) a
      rw [show (j + 1) * 2 = j * 2 + 1 + 1 from by omega]
      show Value.int .i64 x.1 :: Value.int .i64 x.2 :: (valsR l).set (j * 2) (.int .i64 a) = _
      rw [this]
      rfl
theorem valsR_set1 (l : List Rg) : ∀ j (h : j < l.length) (b : Int), (valsR l).set (j * 2 + 1) (.int .i64 b) = valsR (l.set j (l[j].1, b)) := by
  induction l with
  | nil => intro j h; cases h
  | cons x l ih =>
    intro j h a
    cases j with
    | zero => rfl
    | succ j =>
      have := ih j (by simpa using h) a
      rw [show (j + 1) * 2 + 1 = j * 2 + 1 + 1 + 1 from by omega]
      show Value.int .i64 x.1 :: Value.int .i64 x.2 :: (valsR l).set (j * 2 + 1) (.int .i64 a) = _
      rw [this]
      rfl
theorem RowR.store0 {w : World} {base g n cap : Nat} {l : List Rg} (h : RowR w base g n cap l) (j : Nat) (hj : j < l.length) (a : Int) : RowR (w.setCell ⟨g, j * 2, none⟩ (.int .i64 a)) base g n cap (l.set j (a, l[j].2)) := by
  refine ⟨by simpa using h.1, ?_⟩
  rw [← valsR_set0 l j hj a]
  exact (World.ownsRow.stored h.2 (j * 2) (.int .i64 a)).1
theorem RowR.store1 {w : World} {base g n cap : Nat} {l : List Rg} (h : RowR w base g n cap l) (j : Nat) (hj : j < l.length) (b : Int) : RowR (w.setCell ⟨g, j * 2 + 1, none⟩ (.int .i64 b)) base g n cap (l.set j (l[j].1, b)) := by
  refine ⟨by simpa using h.1, ?_⟩
  rw [← valsR_set1 l j hj b]
  exact (World.ownsRow.stored h.2 (j * 2 + 1) (.int .i64 b)).1
theorem RowR.store {w : World} {base g n cap : Nat} {l : List Rg} (h : RowR w base g n cap l) (j : Nat) (hj : j < l.length) (a b : Int) : RowR ((w.setCell ⟨g, j * 2, none⟩ (.int .i64 a)).setCell ⟨g, j * 2 + 1, none⟩ (.int .i64 b)) base g n cap (l.set j (a, b)) := by
  have h1 := (h.store0 j hj a).store1 j (by simpa using hj) b
  simpa using h1
theorem set_take {l m : List Rg} {j : Nat} (hl : m.length = l.length) (h : m.take j = l.take j) (hj : j < l.length) (x : Rg) (hx : l[j] = x) : (m.set j x).take (j + 1) = l.take (j + 1) := by
  rw [List.take_succ_eq_append_getElem hj, List.take_succ_eq_append_getElem (by simpa [hl] using hj), hx]
  have e : (m.set j x).take j = l.take j := by rw [List.take_set, List.set_eq_of_length_le (by rw [List.length_take]; omega), h]
  rw [e]
  simp
set_option maxRecDepth 100000 in
/-- laws.eqRangeS, of two slices that hold the same. -/
theorem eqranges (l : List Rg) (A A' : Option Addr) (cap cap' B : Nat) (w : World) (hB : B ≤ w.heap.size) (hr : Rgs w B A l) (hr' : Rgs w B A' l) (hn : l.length ≤ 1000000000000) :
    Calls Try.prog 17 #[.slice A l.length cap, .slice A' l.length cap'] w fun e w' => e = .returned (.bool true) ∧ Below w.heap.size w w' := by
  have HR := Lib.hid hr
  have HR' := Lib.hid hr'
  clear hr hr'
  go_enter Try.func17, Try.ntmps17
  go_wp2
  go_loopw [5] (fun i wr => ∃ j : Nat, j ≤ l.length ∧ i = .int .i64 j ∧ Below w.heap.size w wr) (fun i _ => l.length - (intOf i).toNat)
  case atStart => exact ⟨0, Nat.zero_le _, rfl, Below.refl _ _⟩
  case round =>
    obtain ⟨j, hj, rfl, hb⟩ := hrel
    have HB := Lib.hid hb
    clear hb
    by_cases hlt : j < l.length
    · obtain ⟨b, off, rfl, hbB, c1, c2⟩ := (HR.out.below hB HB.out) j hlt
      obtain ⟨b', off', rfl, hbB', d1, d2⟩ := (HR'.out.below hB HB.out) j hlt
      generalize l[j] = x at *
      have HQ := Lib.hid (eqrange x x)
      rw [decide_eq_true rfl] at HQ
      have hwr : w.heap.size ≤ wr.heap.size := HB.out.size
      have hS : ∀ W, Below w.heap.size wr W → W.cell? ⟨b, off + j * 2, none⟩ = some (.int .i64 x.1) ∧ W.cell? ⟨b, off + j * 2 + 1, none⟩ = some (.int .i64 x.2) ∧ W.cell? ⟨b', off' + j * 2, none⟩ = some (.int .i64 x.1) ∧ W.cell? ⟨b', off' + j * 2 + 1, none⟩ = some (.int .i64 x.2) := fun W h =>
        ⟨(h.cell (by show b < _; omega)).trans c1, (h.cell (by show b < _; omega)).trans c2, (h.cell (by show b' < _; omega)).trans d1, (h.cell (by show b' < _; omega)).trans d2⟩
      go_wp2
      go_region_held3 (fun W => W.cell? ⟨b, off + j * 2, none⟩ = some (.int .i64 x.1) ∧ W.cell? ⟨b, off + j * 2 + 1, none⟩ = some (.int .i64 x.2) ∧ W.cell? ⟨b', off' + j * 2, none⟩ = some (.int .i64 x.1) ∧ W.cell? ⟨b', off' + j * 2 + 1, none⟩ = some (.int .i64 x.2)) (first | exact hS _ (Below.refl _ _).drew | exact hS1) (first | (go_at_call 45; refine (HQ.out _).mono ?_; rintro e w1 ⟨rfl, hb1⟩; have HB1 := Lib.hid (HB.out.drew.trans (hb1.mono hwr)); have hS1 := hS w1 ((Below.refl _ _).drew.trans (hb1.mono hwr)); clear hb1))
      all_goals go_wp2
      all_goals go_roundw
      case rel => exact ⟨j + 1, by omega, by go_num, HB1.out⟩
      case measure => simp [intOf]; omega
    · obtain rfl : j = l.length := by omega
      go_wp2
      go_ret
      exact ⟨rfl, HB.out⟩

/-- A slice of ranges without its first one. -/
theorem Rgs.tail {w : World} {B b off : Nat} {x : Rg} {l : List Rg} (h : Rgs w B (some ⟨b, off, none⟩) (x :: l)) : Rgs w B (some ⟨b, off + 2, none⟩) l := by
  intro j hj
  obtain ⟨b', off', hA, hlt, h1, h2⟩ := h (j + 1) (by simpa using hj)
  injection hA with hA
  injection hA with e1 e2 _
  subst e1
  subst e2
  refine ⟨b, off + 2, rfl, hlt, ?_, ?_⟩
  · rw [show off + 2 + j * 2 = off + (j + 1) * 2 from by omega]
    simpa using h1
  · rw [show off + 2 + j * 2 + 1 = off + (j + 1) * 2 + 1 from by omega]
    simpa using h2
theorem Rgs.head {w : World} {B : Nat} {A : Option Addr} {x : Rg} {l : List Rg} (h : Rgs w B A (x :: l)) : ∃ b off, A = some ⟨b, off, none⟩ ∧ b < B ∧ w.cell? ⟨b, off, none⟩ = some (.int .i64 x.1) ∧ w.cell? ⟨b, off + 1, none⟩ = some (.int .i64 x.2) := by
  obtain ⟨b, off, hA, hlt, h1, h2⟩ := h 0 (by simp)
  exact ⟨b, off, hA, hlt, by simpa using h1, by simpa using h2⟩
end Go.Proofs.Ytjohbfdifdjldaa
