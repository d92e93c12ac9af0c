/-
  What the laws' words on ranges return: toRange, toRangeS, szRangeS, eqRange, eqRangeS, markRangeS, heldRangeS.
-/
import Derived.Test.YtjgabiklmloogaaDoorSRng6
namespace Go.Proofs.YtjgabiklmloogaaDoor
open Go.RowKit Go.Deep Go.Proofs.YtjgabiklmloogaaDoor.Num

theorem rg_third (w : World) (o1 o2 o3 : Obj) : (((w.alloc o1).alloc o2).alloc o3).heap[w.heap.size + 1]? = some o2 := by
  have h : (w.alloc o1).heap.size = w.heap.size + 1 := by simp
  rw [← h]
  exact (Below.heap_alloc _ _ _ (by simp)).trans (heap_alloc_new _ _)

set_option maxRecDepth 100000 in
/-- laws.toRange -/
theorem torange (x : Rg) (w : World) :
    Calls Tryd.prog 46 #[rgV x] w fun e w' => e = .returned (rgV x) ∧ Below w.heap.size w w' := by
  go_enter Tryd.func46, Tryd.ntmps46
  go_wp2
  refine bodyPost_ret (results_cell_row rfl _ _ (w.heap.size + 1) _ _ _ _ rfl (rg_third w _ _ _) Tryd.underlying26 rfl (by kernel_rfl)) rfl ?_
  exact ⟨rfl, (((Below.refl _ _).alloc (Nat.le_refl _) _).alloc (by simp) _).alloc (by simp; omega) _⟩

/-- laws.szRangeS -/
theorem szrange (n : Nat) (A : Option Addr) (cap : Nat) (k : Int) (w : World) (hn : n ≤ 9223372036854775807) (hk : 0 ≤ k ∧ k ≤ 1048576) :
    Calls Tryd.prog 25 #[.slice A n cap, .int .i64 k] w fun e w' => e = .returned (.int .i64 (if k < n then -1 else k - n)) ∧ Below w.heap.size w w' := by
  have hw : IntKind.i64.wrap (k - (n : Int)) = k - n := by rw [IntKind.wrap_i64]; omega
  by_cases h : k < n
  · have hd : decide (k - (n : Int) < 0) = true := decide_eq_true (by omega)
    rw [if_pos h]
    clear h
    go_enter Tryd.func25, Tryd.ntmps25
    go_wp2
    go_ret
    exact ⟨rfl, Below.refl _ _⟩
  · have hd : decide (k - (n : Int) < 0) = false := decide_eq_false (by omega)
    rw [if_neg h]
    clear h
    go_enter Tryd.func25, Tryd.ntmps25
    go_wp2
    go_ret
    exact ⟨rfl, Below.refl _ _⟩

/-- laws.eqRange -/
theorem eqrange (x y : Rg) (w : World) :
    Calls Tryd.prog 47 #[rgV x, rgV y] w fun e w' => e = .returned (.bool (decide (x = y))) ∧ Below w.heap.size w w' := by
  have hb := (((Below.refl w.heap.size w).alloc (Nat.le_refl _) (.cells #[.int .i64 x.1, .int .i64 x.2] 26)).alloc (by simp) (.cells #[.int .i64 y.1, .int .i64 y.2] 26))
  by_cases h1 : x.1 = y.1
  · have hd1 : (x.1 == y.1) = true := by simpa using h1
    by_cases h2 : x.2 = y.2
    · have hd2 : (x.2 == y.2) = true := by simpa using h2
      rw [decide_eq_true (Prod.ext h1 h2)]
      clear h1 h2
      go_enter Tryd.func47, Tryd.ntmps47
      go_wp2
      go_ret
      exact ⟨rfl, hb⟩
    · have hd2 : (x.2 == y.2) = false := by simpa using h2
      rw [decide_eq_false (fun h => h2 (by rw [h]))]
      clear h1 h2
      go_enter Tryd.func47, Tryd.ntmps47
      go_wp2
      go_ret
      exact ⟨rfl, hb⟩
  · have hd1 : (x.1 == y.1) = false := by simpa using h1
    rw [decide_eq_false (fun h => h1 (by rw [h]))]
    clear h1
    go_enter Tryd.func47, Tryd.ntmps47
    go_wp2
    go_ret
    exact ⟨rfl, hb⟩

/-- A row of n ranges in block g, the call's own. -/
def RowR (w : World) (base g n cap : Nat) (l : List Rg) : Prop := l.length = n ∧ w.ownsRow base 26 2 (.slice (some ⟨g, 0, none⟩) n cap) n (valsR l)
theorem RowR.own {w : World} {base g n cap : Nat} {l : List Rg} (h : RowR w base g n cap l) : OwnR w base (.slice (some ⟨g, 0, none⟩) n cap) l := by
  obtain ⟨rfl, h⟩ := h
  exact h
theorem OwnR.row {w : World} {base g cap : Nat} {l : List Rg} (h : OwnR w base (.slice (some ⟨g, 0, none⟩) l.length cap) l) : RowR w base g l.length cap l := ⟨rfl, h⟩
theorem RowR.ge {w : World} {base g n cap : Nat} {l : List Rg} (h : RowR w base g n cap l) : base ≤ g ∧ g < w.heap.size := World.ownsRow.lt h.2 g rfl
theorem RowR.cells {w : World} {base g n cap : Nat} {l : List Rg} (h : RowR w base g n cap l) (j : Nat) (hj : j < l.length) : w.cell? ⟨g, j * 2, none⟩ = some (.int .i64 l[j].1) ∧ w.cell? ⟨g, j * 2 + 1, none⟩ = some (.int .i64 l[j].2) := by
  have hn := h.1
  exact ⟨(World.ownsRow.cellAt h.2 (j * 2) (by omega)).trans (valsR_at l j hj).1, (World.ownsRow.cellAt h.2 (j * 2 + 1) (by omega)).trans (valsR_at l j hj).2⟩
theorem RowR.rgs {w : World} {base g n cap : Nat} {l : List Rg} (h : RowR w base g n cap l) : Rgs w w.heap.size (some ⟨g, 0, none⟩) l := fun j hj =>
  ⟨g, 0, rfl, h.ge.2, by rw [Nat.zero_add]; exact (h.cells j hj).1, by rw [Nat.zero_add]; exact (h.cells j hj).2⟩
theorem RowR.free {w : World} {base g n cap : Nat} {l : List Rg} (h : RowR w base g n cap l) (k : Nat) : w.frozen? ⟨g, k, none⟩ = false := World.ownsRow.frozenAt h.2 k
theorem RowR.later {w w' : World} {base g n cap : Nat} {l : List Rg} (h : RowR w base g n cap l) (hb : Below w.heap.size w w') : RowR w' base g n cap l := ⟨h.1, owns_later h.2 hb⟩
theorem RowR.alloc {w : World} {base g n cap : Nat} {l : List Rg} (h : RowR w base g n cap l) (o : Obj) : RowR (w.alloc o) base g n cap l := ⟨h.1, World.ownsRow.alloc h.2 o⟩
theorem valsR_set0 (l : List Rg) : ∀ j (h : j < l.length) (a : Int), (valsR l).set (j * 2) (.int .i64 a) = valsR (l.set j (a, l[j].2)) := by
  induction l with
  | nil => intro j h; cases h
  | cons x l ih =>
    intro j h a
    cases j with
    | zero => rfl
    | succ j =>
      have := ih j (by simpa using h) a
      rw [show (j + 1) * 2 = j * 2 + 1 + 1 from by omega]
      show Value.int .i64 x.1 :: Value.int .i64 x.2 :: (valsR l).set (j * 2) (.int .i64 a) = _
      rw [this]
      rfl
theorem valsR_set1 (l : List Rg) : ∀ j (h : j < l.length) (b : Int), (valsR l).set (j * 2 + 1) (.int .i64 b) = valsR (l.set j (l[j].1, b)) := by
  induction l with
  | nil => intro j h; cases h
  | cons x l ih =>
    intro j h a
    cases j with
    | zero => rfl
    | succ j =>
      have := ih j (by simpa using h) a
      rw [show (j + 1) * 2 + 1 = j * 2 + 1 + 1 + 1 from by omega]
      show Value.int .i64 x.1 :: Value.int .i64 x.2 :: (valsR l).set (j * 2 + 1) (.int .i64 a) = _
      rw [this]
      rfl
theorem RowR.store0 {w : World} {base g n cap : Nat} {l : List Rg} (h : RowR w base g n cap l) (j : Nat) (hj : j < l.length) (a : Int) : RowR (w.setCell ⟨g, j * 2, none⟩ (.int .i64 a)) base g n cap (l.set j (a, l[j].2)) := by
  refine ⟨by simpa using h.1, ?_⟩
  rw [← valsR_set0 l j hj a]
  exact (World.ownsRow.stored h.2 (j * 2) (.int .i64 a)).1
theorem RowR.store1 {w : World} {base g n cap : Nat} {l : List Rg} (h : RowR w base g n cap l) (j : Nat) (hj : j < l.length) (b : Int) : RowR (w.setCell ⟨g, j * 2 + 1, none⟩ (.int .i64 b)) base g n cap (l.set j (l[j].1, b)) := by
  refine ⟨by simpa using h.1, ?_⟩
  rw [← valsR_set1 l j hj b]
  exact (World.ownsRow.stored h.2 (j * 2 + 1) (.int .i64 b)).1
theorem RowR.store {w : World} {base g n cap : Nat} {l : List Rg} (h : RowR w base g n cap l) (j : Nat) (hj : j < l.length) (a b : Int) : RowR ((w.setCell ⟨g, j * 2, none⟩ (.int .i64 a)).setCell ⟨g, j * 2 + 1, none⟩ (.int .i64 b)) base g n cap (l.set j (a, b)) := by
  have h1 := (h.store0 j hj a).store1 j (by simpa using hj) b
  simpa using h1
theorem set_take {l m : List Rg} {j : Nat} (hl : m.length = l.length) (h : m.take j = l.take j) (hj : j < l.length) (x : Rg) (hx : l[j] = x) : (m.set j x).take (j + 1) = l.take (j + 1) := by
  rw [List.take_succ_eq_append_getElem hj, List.take_succ_eq_append_getElem (by simpa [hl] using hj), hx]
  have e : (m.set j x).take j = l.take j := by rw [List.take_set, List.set_eq_of_length_le (by rw [List.length_take]; omega), h]
  rw [e]
  simp
theorem madeR (n : Nat) : (madeCells #[Value.int .i64 0, Value.int .i64 0] (n * 2)).toList = valsR (List.replicate n (0, 0)) := by
  have h1 : ∀ n, valsR (List.replicate n ((0, 0) : Rg)) = List.replicate (n * 2) (Value.int .i64 0) := by
    intro n
    induction n with
    | zero => rfl
    | succ n ih =>
      rw [List.replicate_succ, show (n + 1) * 2 = n * 2 + 1 + 1 from by omega, List.replicate_succ, List.replicate_succ]
      show _ :: _ :: valsR _ = _
      rw [ih]
  rw [h1]
  apply List.ext_getElem?
  intro j
  by_cases hj : j < n * 2
  · rcases Nat.mod_two_eq_zero_or_one j with hm | hm <;> simp [madeCells, hj, hm]
  · simp [madeCells, hj]
theorem make_rgs (n : Nat) (hn : n ≤ 1048576) (w : World) :
    ∃ w', (Instr.makeSlice 24 (.int .i64 (n : Int)) (.int .i64 (n : Int))).run Tryd.prog w = .ok (.slice (some ⟨w.heap.size, 0, none⟩) n n) w' ∧ RowR w' w.heap.size w.heap.size n n (List.replicate n (0, 0)) ∧ Below w.heap.size w w' := by
  obtain ⟨i0, hi, hz0, hz1, hz2⟩ := info_parts infoR
  obtain ⟨w', h1, h2, h3⟩ := run_make_full w w.heap.size 24 26 i0 (.agg #[.int .i64 0, .int .i64 0]) 2 Tryd.underlying24 hi hz0 hz1 .i64 .i64 n (by rw [hz2]; omega) (by unfold maxLen; omega) (Nat.le_refl _)
  refine ⟨w', h1, ⟨by simp, ?_⟩, (Below.refl _ _).grown h3 (Nat.le_refl _) (fun k hk => by cases hk)⟩
  rw [← madeR]
  exact h2

set_option maxRecDepth 100000 in
/-- laws.toRangeS: a copy, in a new block. -/
theorem toranges (l : List Rg) (A : Option Addr) (cap B : Nat) (w : World) (hB : B ≤ w.heap.size) (hr : Rgs w B A l) (hn : l.length ≤ 1048576) :
    Calls Tryd.prog 26 #[.slice A l.length cap] w fun e w' => e = .returned (.slice (some ⟨w.heap.size, 0, none⟩) l.length l.length) ∧ RowR w' w.heap.size w.heap.size l.length l.length l ∧ Below w.heap.size w w' := by
  have HR := Lib.hid hr
  clear hr
  obtain ⟨w0, hmk, ho0, hb0⟩ := make_rgs l.length hn w
  have HO0 := Lib.hid ho0
  have HB0 := Lib.hid hb0
  clear ho0 hb0
  go_enter Tryd.func26, Tryd.ntmps26
  go_wp2
  clear hmk
  go_loopw [4] (fun i wr => ∃ (j : Nat) (m : List Rg), j ≤ l.length ∧ i = .int .i64 j ∧ RowR wr w.heap.size w.heap.size l.length l.length m ∧ m.take j = l.take j ∧ Below w.heap.size w wr) (fun i _ => l.length - (intOf i).toNat)
  case atStart => exact ⟨0, _, Nat.zero_le _, rfl, HO0.out, rfl, HB0.out⟩
  case round =>
    obtain ⟨j, m, hj, rfl, ho, ht, hb⟩ := hrel
    have HO := Lib.hid ho
    have HB := Lib.hid hb
    have HT := Lib.hid ht
    clear ho hb ht HO0 HB0
    by_cases hlt : j < l.length
    · have HRW := Lib.hid (HR.out.below hB HB.out)
      obtain ⟨b, off, rfl, hbB, c1, c2⟩ := HRW.out j hlt
      have HX : Hid (l[j] = l[j]) := Lib.hid rfl
      have HS : Hid (∀ x, l[j] = x → (m.set j x).take (j + 1) = l.take (j + 1)) := Lib.hid (fun x hx => set_take HO.out.1 HT.out hlt x hx)
      generalize hx : l[j] = x at *
      have HS2 := Lib.hid (HS.out x rfl)
      go_wp2_with fail
      refine (torange x _).mono ?_
      rintro e w1 ⟨rfl, hb1⟩
      have HO1 := Lib.hid (HO.out.later hb1)
      have HB1 := Lib.hid (HB.out.trans (hb1.mono HB.out.size))
      have hjm : j < m.length := by rw [HO.out.1]; exact hlt
      obtain ⟨q1, q2⟩ := HO1.out.cells j hjm
      have hfz := HO1.out.free
      clear hb1 c1 c2 hx HS HX
      go_wp2
      go_roundw
      case rel => exact ⟨j + 1, _, hlt, by go_num, HO1.out.store j hjm x.1 x.2, HS2.out, (HB1.out.setCell (p := ⟨_, _, _⟩) (Nat.le_refl _) _).setCell (p := ⟨_, _, _⟩) (Nat.le_refl _) _⟩
      case measure => simp [intOf]; omega
    · obtain rfl : j = l.length := by omega
      have HE : Hid (m = l) := Lib.hid (by
        have h := HT.out
        rw [List.take_of_length_le (by rw [HO.out.1]; exact Nat.le_refl _), List.take_of_length_le (Nat.le_refl _)] at h
        exact h)
      have HO2 := HO
      rw [HE.out] at HO2
      go_wp2
      go_ret
      exact ⟨rfl, HO2.out, HB.out⟩

set_option maxRecDepth 100000 in
/-- laws.eqRangeS, of two slices that hold the same. -/
theorem eqranges (l : List Rg) (A A' : Option Addr) (cap cap' B : Nat) (w : World) (hB : B ≤ w.heap.size) (hr : Rgs w B A l) (hr' : Rgs w B A' l) (hn : l.length ≤ 1000000000000) :
    Calls Tryd.prog 27 #[.slice A l.length cap, .slice A' l.length cap'] w fun e w' => e = .returned (.bool true) ∧ Below w.heap.size w w' := by
  have HR := Lib.hid hr
  have HR' := Lib.hid hr'
  clear hr hr'
  go_enter Tryd.func27, Tryd.ntmps27
  go_wp2
  go_loopw [5] (fun i wr => ∃ j : Nat, j ≤ l.length ∧ i = .int .i64 j ∧ Below w.heap.size w wr) (fun i _ => l.length - (intOf i).toNat)
  case atStart => exact ⟨0, Nat.zero_le _, rfl, Below.refl _ _⟩
  case round =>
    obtain ⟨j, hj, rfl, hb⟩ := hrel
    have HB := Lib.hid hb
    clear hb
    by_cases hlt : j < l.length
    · obtain ⟨b, off, rfl, hbB, c1, c2⟩ := (HR.out.below hB HB.out) j hlt
      obtain ⟨b', off', rfl, hbB', d1, d2⟩ := (HR'.out.below hB HB.out) j hlt
      generalize l[j] = x at *
      have HQ := Lib.hid (eqrange x x)
      rw [decide_eq_true rfl] at HQ
      have hwr : w.heap.size ≤ wr.heap.size := HB.out.size
      have hS : ∀ W, Below w.heap.size wr W → W.cell? ⟨b, off + j * 2, none⟩ = some (.int .i64 x.1) ∧ W.cell? ⟨b, off + j * 2 + 1, none⟩ = some (.int .i64 x.2) ∧ W.cell? ⟨b', off' + j * 2, none⟩ = some (.int .i64 x.1) ∧ W.cell? ⟨b', off' + j * 2 + 1, none⟩ = some (.int .i64 x.2) := fun W h =>
        ⟨(h.cell (by show b < _; omega)).trans c1, (h.cell (by show b < _; omega)).trans c2, (h.cell (by show b' < _; omega)).trans d1, (h.cell (by show b' < _; omega)).trans d2⟩
      go_wp2
      go_region_held3 (fun W => W.cell? ⟨b, off + j * 2, none⟩ = some (.int .i64 x.1) ∧ W.cell? ⟨b, off + j * 2 + 1, none⟩ = some (.int .i64 x.2) ∧ W.cell? ⟨b', off' + j * 2, none⟩ = some (.int .i64 x.1) ∧ W.cell? ⟨b', off' + j * 2 + 1, none⟩ = some (.int .i64 x.2)) (first | exact hS _ (Below.refl _ _).drew | exact hS1) (first | (go_at_call 47; refine (HQ.out _).mono ?_; rintro e w1 ⟨rfl, hb1⟩; have HB1 := Lib.hid (HB.out.drew.trans (hb1.mono hwr)); have hS1 := hS w1 ((Below.refl _ _).drew.trans (hb1.mono hwr)); clear hb1))
      all_goals go_wp2
      all_goals go_roundw
      case rel => exact ⟨j + 1, by omega, by go_num, HB1.out⟩
      case measure => simp [intOf]; omega
    · obtain rfl : j = l.length := by omega
      go_wp2
      go_ret
      exact ⟨rfl, HB.out⟩

/-- A slice of ranges without its first one. -/
theorem Rgs.tail {w : World} {B b off : Nat} {x : Rg} {l : List Rg} (h : Rgs w B (some ⟨b, off, none⟩) (x :: l)) : Rgs w B (some ⟨b, off + 2, none⟩) l := by
  intro j hj
  obtain ⟨b', off', hA, hlt, h1, h2⟩ := h (j + 1) (by simpa using hj)
  injection hA with hA
  injection hA with e1 e2 _
  subst e1
  subst e2
  refine ⟨b, off + 2, rfl, hlt, ?_, ?_⟩
  · rw [show off + 2 + j * 2 = off + (j + 1) * 2 from by omega]
    simpa using h1
  · rw [show off + 2 + j * 2 + 1 = off + (j + 1) * 2 + 1 from by omega]
    simpa using h2
theorem Rgs.head {w : World} {B : Nat} {A : Option Addr} {x : Rg} {l : List Rg} (h : Rgs w B A (x :: l)) : ∃ b off, A = some ⟨b, off, none⟩ ∧ b < B ∧ w.cell? ⟨b, off, none⟩ = some (.int .i64 x.1) ∧ w.cell? ⟨b, off + 1, none⟩ = some (.int .i64 x.2) := by
  obtain ⟨b, off, hA, hlt, h1, h2⟩ := h 0 (by simp)
  exact ⟨b, off, hA, hlt, by simpa using h1, by simpa using h2⟩
end Go.Proofs.YtjgabiklmloogaaDoor
