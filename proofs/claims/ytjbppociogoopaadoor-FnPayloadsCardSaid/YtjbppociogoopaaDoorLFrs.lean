/-
  What the laws' words on slices of frames return: szFrameS, toFrameS, eqFrameS, sameFrames.
-/
import Derived.Test.YtjbppociogoopaaDoorLFr
import Derived.Test.YtjbppociogoopaaDoorFrs
import Derived.Test.YtjbppociogoopaaDoorSFr3
import Derived.BigQuiet
namespace Go.Proofs.YtjbppociogoopaaDoor
open Go.RowKit Go.Deep Go.Proofs.YtjbppociogoopaaDoor.Num

/-- A row of n frames in block g, the call's own. -/
def RowF (w : World) (base g n cap : Nat) (l : List Fr) : Prop := l.length = n ∧ w.ownsRow base 25 9 (.slice (some ⟨g, 0, none⟩) n cap) n (valsF l)
theorem RowF.own {w : World} {base g n cap : Nat} {l : List Fr} (h : RowF w base g n cap l) : OwnF w base (.slice (some ⟨g, 0, none⟩) n cap) l := by
  obtain ⟨rfl, h⟩ := h
  exact h
theorem OwnF.row {w : World} {base g cap : Nat} {l : List Fr} (h : OwnF w base (.slice (some ⟨g, 0, none⟩) l.length cap) l) : RowF w base g l.length cap l := ⟨rfl, h⟩
theorem RowF.ge {w : World} {base g n cap : Nat} {l : List Fr} (h : RowF w base g n cap l) : base ≤ g ∧ g < w.heap.size := World.ownsRow.lt h.2 g rfl
theorem RowF.at {w : World} {base g n cap : Nat} {l : List Fr} (h : RowF w base g n cap l) (j : Nat) (hj : j < l.length) (i : Nat) (hi : i < 9) : w.cell? ⟨g, j * 9 + i, none⟩ = (frL l[j])[i]? := by
  have hn := h.1
  exact (World.ownsRow.cellAt h.2 (j * 9 + i) (by omega)).trans (valsF_at l j hj i hi)
theorem RowF.frs {w : World} {base g n cap : Nat} {l : List Fr} (h : RowF w base g n cap l) : Frs w w.heap.size (some ⟨g, 0, none⟩) l := fun j hj =>
  ⟨g, 0, rfl, h.ge.2, fun i hi => by rw [Nat.zero_add]; exact h.at j hj i hi⟩
theorem RowF.free {w : World} {base g n cap : Nat} {l : List Fr} (h : RowF w base g n cap l) (k : Nat) : w.frozen? ⟨g, k, none⟩ = false := World.ownsRow.frozenAt h.2 k
theorem RowF.later {w w' : World} {base g n cap : Nat} {l : List Fr} (h : RowF w base g n cap l) (hb : Below w.heap.size w w') : RowF w' base g n cap l := ⟨h.1, owns_later h.2 hb⟩
theorem RowF.alloc {w : World} {base g n cap : Nat} {l : List Fr} (h : RowF w base g n cap l) (ob : Obj) : RowF (w.alloc ob) base g n cap l := ⟨h.1, World.ownsRow.alloc h.2 ob⟩
theorem valsF_set (l : List Fr) : ∀ j (h : j < l.length) i (_ : i < 9) (v : Value) (x : Fr), frL x = (frL l[j]).set i v → (valsF l).set (j * 9 + i) v = valsF (l.set j x) := by
  induction l with
  | nil => intro j h; cases h
  | cons y l ih =>
    intro j h i hi v x hx
    cases j with
    | zero =>
      rw [Nat.zero_mul, Nat.zero_add]
      show (frL y ++ valsF l).set i v = frL x ++ valsF l
      rw [List.set_append_left _ _ (by rw [frL_len]; exact hi), hx]
      rfl
    | succ j =>
      show (frL y ++ valsF l).set ((j + 1) * 9 + i) v = frL y ++ valsF (l.set j x)
      rw [List.set_append_right _ _ (by rw [frL_len]; omega), frL_len, show (j + 1) * 9 + i - 9 = j * 9 + i by omega, ih j (by simpa using h) i hi v x hx]
theorem RowF.put {w : World} {base g n cap : Nat} {l : List Fr} (h : RowF w base g n cap l) (j : Nat) (hj : j < l.length) (i : Nat) (hi : i < 9) (v : Value) (x : Fr) (hx : frL x = (frL l[j]).set i v) : RowF (w.setCell ⟨g, j * 9 + i, none⟩ v) base g n cap (l.set j x) := by
  refine ⟨by simpa using h.1, ?_⟩
  rw [← valsF_set l j hj i hi v x hx]
  exact (World.ownsRow.stored h.2 (j * 9 + i) v).1
/-- A frame is written into its place. -/
def setAt (W : World) (g k : Nat) (x : Fr) : World := ((((((((W.setCell ⟨g, k, none⟩ (.int .i64 x.kind)).setCell ⟨g, k + 1, none⟩ (.int .i64 x.stream)).setCell ⟨g, k + 2, none⟩ (.int .i64 x.offset)).setCell ⟨g, k + 3, none⟩ (.string x.data)).setCell ⟨g, k + 4, none⟩ (.bool x.fin)).setCell ⟨g, k + 5, none⟩ (.int .i64 x.code)).setCell ⟨g, k + 6, none⟩ (.int .i64 x.limit)).setCell ⟨g, k + 7, none⟩ (.int .i64 x.final)).setCell ⟨g, k + 8, none⟩ (.bool x.uni)
theorem setAt_below {w W : World} {g : Nat} (h : Below w.heap.size w W) (hg : w.heap.size ≤ g) (k : Nat) (x : Fr) : Below w.heap.size w (setAt W g k x) := by
  unfold setAt
  exact ((((((((h.setCell (p := ⟨g, k, none⟩) hg _).setCell (p := ⟨g, k + 1, none⟩) hg _).setCell (p := ⟨g, k + 2, none⟩) hg _).setCell (p := ⟨g, k + 3, none⟩) hg _).setCell (p := ⟨g, k + 4, none⟩) hg _).setCell (p := ⟨g, k + 5, none⟩) hg _).setCell (p := ⟨g, k + 6, none⟩) hg _).setCell (p := ⟨g, k + 7, none⟩) hg _).setCell (p := ⟨g, k + 8, none⟩) hg _
theorem RowF.all {w : World} {base g n cap : Nat} {l : List Fr} (h : RowF w base g n cap l) (j : Nat) (hj : j < l.length) (x : Fr) : RowF (setAt w g (j * 9) x) base g n cap (l.set j x) := by
  obtain ⟨y, hy⟩ : ∃ y, l[j] = y := ⟨_, rfl⟩
  have h0 := h.put j hj 0 (by omega) (.int .i64 x.kind) { y with kind := x.kind } (by rw [hy]; rfl)
  have h1 := h0.put j (by simpa using hj) 1 (by omega) (.int .i64 x.stream) { y with kind := x.kind, stream := x.stream } (by rw [List.getElem_set_self]; rfl)
  rw [List.set_set] at h1
  have h2 := h1.put j (by simpa using hj) 2 (by omega) (.int .i64 x.offset) { y with kind := x.kind, stream := x.stream, offset := x.offset } (by rw [List.getElem_set_self]; rfl)
  rw [List.set_set] at h2
  have h3 := h2.put j (by simpa using hj) 3 (by omega) (.string x.data) { y with kind := x.kind, stream := x.stream, offset := x.offset, data := x.data } (by rw [List.getElem_set_self]; rfl)
  rw [List.set_set] at h3
  have h4 := h3.put j (by simpa using hj) 4 (by omega) (.bool x.fin) { y with kind := x.kind, stream := x.stream, offset := x.offset, data := x.data, fin := x.fin } (by rw [List.getElem_set_self]; rfl)
  rw [List.set_set] at h4
  have h5 := h4.put j (by simpa using hj) 5 (by omega) (.int .i64 x.code) { y with kind := x.kind, stream := x.stream, offset := x.offset, data := x.data, fin := x.fin, code := x.code } (by rw [List.getElem_set_self]; rfl)
  rw [List.set_set] at h5
  have h6 := h5.put j (by simpa using hj) 6 (by omega) (.int .i64 x.limit) { y with kind := x.kind, stream := x.stream, offset := x.offset, data := x.data, fin := x.fin, code := x.code, limit := x.limit } (by rw [List.getElem_set_self]; rfl)
  rw [List.set_set] at h6
  have h7 := h6.put j (by simpa using hj) 7 (by omega) (.int .i64 x.final) { y with kind := x.kind, stream := x.stream, offset := x.offset, data := x.data, fin := x.fin, code := x.code, limit := x.limit, final := x.final } (by rw [List.getElem_set_self]; rfl)
  rw [List.set_set] at h7
  have h8 := h7.put j (by simpa using hj) 8 (by omega) (.bool x.uni) { y with kind := x.kind, stream := x.stream, offset := x.offset, data := x.data, fin := x.fin, code := x.code, limit := x.limit, final := x.final, uni := x.uni } (by rw [List.getElem_set_self]; rfl)
  rw [List.set_set] at h8
  exact h8
theorem set_takeF {l m : List Fr} {j : Nat} (hl : m.length = l.length) (h : m.take j = l.take j) (hj : j < l.length) (x : Fr) (hx : l[j] = x) : (m.set j x).take (j + 1) = l.take (j + 1) := by
  rw [List.take_succ_eq_append_getElem hj, List.take_succ_eq_append_getElem (by simpa [hl] using hj), hx]
  have e : (m.set j x).take j = l.take j := by rw [List.take_set, List.set_eq_of_length_le (by rw [List.length_take]; omega), h]
  rw [e]
  simp

theorem belowF_drewN {B : Nat} {a w : World} (h : Below B a w) (n : Nat) : Below B a (w.drewN n) := ⟨h.os, h.tape, h.output, h.size, h.block⟩
set_option maxRecDepth 100000 in
/-- laws.eqFrameS, of two slices that hold the same. -/
theorem eqframes (l : List Fr) (A A' : Option Addr) (cap cap' B : Nat) (w : World) (hB : B ≤ w.heap.size) (hr : Frs w B A l) (hr' : Frs w B A' l) (hn : l.length ≤ 1000000000) :
    Calls Tryd.prog 38 #[.slice A l.length cap, .slice A' l.length cap'] w fun e w' => e = .returned (.bool true) ∧ Below w.heap.size w w' := by
  have HR := Lib.hid hr
  have HR' := Lib.hid hr'
  clear hr hr'
  go_enter Tryd.func38, Tryd.ntmps38
  go_wp2
  go_loopw [5] (fun i wr => ∃ j : Nat, j ≤ l.length ∧ i = .int .i64 j ∧ Below w.heap.size w wr) (fun i _ => l.length - (intOf i).toNat)
  case atStart => exact ⟨0, Nat.zero_le _, rfl, Below.refl _ _⟩
  case round =>
    obtain ⟨j, hj, rfl, hb⟩ := hrel
    have HB := Lib.hid hb
    clear hb
    by_cases hlt : j < l.length
    · obtain ⟨b, off, rfl, hbB, c0, c1, c2, c3, c4, c5, c6, c7, c8⟩ := (HR.out.below hB HB.out).cells j hlt
      obtain ⟨b', off', rfl, hbB', d0, d1, d2, d3, d4, d5, d6, d7, d8⟩ := (HR'.out.below hB HB.out).cells j hlt
      generalize l[j] = x at *
      have HQ := Lib.hid (leq x)
      have hwr : w.heap.size ≤ wr.heap.size := HB.out.size
      go_wp2
      go_region_with (go_at_call 35; refine (HQ.out _).mono ?_; rintro e w1 ⟨rfl, hb1⟩; have HB1 := Lib.hid (HB.out.drew.trans (hb1.mono hwr)); clear hb1)
      all_goals go_wp2
      all_goals go_roundw
      all_goals first | exact ⟨j + 1, by omega, by go_num, HB1.out⟩ | (simp [intOf]; omega)
    · obtain rfl : j = l.length := by omega
      go_wp2
      go_ret
      exact ⟨rfl, HB.out⟩
set_option maxRecDepth 100000 in
/-- laws.sameFrames, of two slices that hold the same. -/
theorem sameframes (l : List Fr) (A A' : Option Addr) (cap cap' B : Nat) (w : World) (hB : B ≤ w.heap.size) (hr : Frs w B A l) (hr' : Frs w B A' l) (hn : l.length ≤ 1000000000) :
    Calls Tryd.prog 29 #[.slice A l.length cap, .slice A' l.length cap'] w fun e w' => e = .returned (.bool true) ∧ Below w.heap.size w w' := by
  have HR := Lib.hid hr
  have HR' := Lib.hid hr'
  clear hr hr'
  go_enter Tryd.func29, Tryd.ntmps29
  go_wp2
  go_loopw [5] (fun i wr => ∃ j : Nat, j ≤ l.length ∧ i = .int .i64 j ∧ Below w.heap.size w wr) (fun i _ => l.length - (intOf i).toNat)
  case atStart => exact ⟨0, Nat.zero_le _, rfl, Below.refl _ _⟩
  case round =>
    obtain ⟨j, hj, rfl, hb⟩ := hrel
    have HB := Lib.hid hb
    clear hb
    by_cases hlt : j < l.length
    · obtain ⟨b, off, rfl, hbB, c0, c1, c2, c3, c4, c5, c6, c7, c8⟩ := (HR.out.below hB HB.out).cells j hlt
      obtain ⟨b', off', rfl, hbB', d0, d1, d2, d3, d4, d5, d6, d7, d8⟩ := (HR'.out.below hB HB.out).cells j hlt
      generalize l[j] = x at *
      have hq : ∀ W, (Op.equalIn 10000 25 (frV x) (frV x)).run Tryd.prog W = .ok true W := fun W => eqF_yes x W
      go_wp2
      go_quiet (fail)
      go_wp2
      go_roundw
      case rel => exact ⟨j + 1, hlt, by go_num, belowF_drewN HB.out _⟩
      case measure => simp [intOf]; omega
    · obtain rfl : j = l.length := by omega
      go_wp2
      go_ret
      exact ⟨rfl, HB.out⟩

/-- What is left of a size when frames are taken off; -1, once nothing is. -/
def szFs : Int → List Fr → Int
  | n, [] => n
  | n, f :: l => if n < f.data.size then -1 else szFs (n - f.data.size) l
theorem szFs_done (n : Int) : szFs n [] = n := rfl
theorem madeF (n : Nat) : (madeCells (frC fr0) (n * 9)).toList = valsF (List.replicate n fr0) := by
  apply List.ext_getElem?
  intro j
  by_cases hj : j < n * 9
  · have hv := valsF_at (List.replicate n fr0) (j / 9) (by simp; omega) (j % 9) (by omega)
    rw [show j / 9 * 9 + j % 9 = j by omega, List.getElem_replicate] at hv
    rw [hv]
    have h9 : j % 9 < 9 := by omega
    simp [madeCells, hj]
    rcases (show j % 9 = 0 ∨ j % 9 = 1 ∨ j % 9 = 2 ∨ j % 9 = 3 ∨ j % 9 = 4 ∨ j % 9 = 5 ∨ j % 9 = 6 ∨ j % 9 = 7 ∨ j % 9 = 8 by omega) with e | e | e | e | e | e | e | e | e <;> simp [e, frL]
  · rw [List.getElem?_eq_none (by simp [madeCells]; omega), List.getElem?_eq_none (by rw [valsF_len]; simp; omega)]
theorem make_frs (n : Nat) (hn : n ≤ 1048576) (w : World) :
    ∃ w', (Instr.makeSlice 36 (.int .i64 (n : Int)) (.int .i64 (n : Int))).run Tryd.prog w = .ok (.slice (some ⟨w.heap.size, 0, none⟩) n n) w' ∧ RowF w' w.heap.size w.heap.size n n (List.replicate n fr0) ∧ Below w.heap.size w w' := by
  obtain ⟨i0, hi, hz0, hz1, hz2⟩ := info_parts infoF
  obtain ⟨w', h1, h2, h3⟩ := run_make_full w w.heap.size 36 25 i0 (frV fr0) 9 Tryd.underlying36 hi hz0 hz1 .i64 .i64 n (by rw [hz2]; omega) (by unfold maxLen; omega) (Nat.le_refl _)
  refine ⟨w', h1, ⟨by simp, ?_⟩, (Below.refl _ _).grown h3 (Nat.le_refl _) (fun k hk => by cases hk)⟩
  rw [← madeF]
  exact h2

set_option maxRecDepth 100000 in
set_option maxHeartbeats 1000000 in
/-- laws.toFrameS: a copy, in a new block. -/
theorem toframes (l : List Fr) (A : Option Addr) (cap B : Nat) (w : World) (hB : B ≤ w.heap.size) (hr : Frs w B A l) (hn : l.length ≤ 1048576) :
    Calls Tryd.prog 37 #[.slice A l.length cap] w fun e w' => e = .returned (.slice (some ⟨w.heap.size, 0, none⟩) l.length l.length) ∧ RowF w' w.heap.size w.heap.size l.length l.length l ∧ Below w.heap.size w w' := by
  have HR := Lib.hid hr
  clear hr
  obtain ⟨w0, hmk, ho0, hb0⟩ := make_frs l.length hn w
  have HO0 := Lib.hid ho0
  have HB0 := Lib.hid hb0
  clear ho0 hb0
  go_enter Tryd.func37, Tryd.ntmps37
  go_wp2
  clear hmk
  go_loopw [4] (fun i wr => ∃ (j : Nat) (m : List Fr), j ≤ l.length ∧ i = .int .i64 j ∧ RowF wr w.heap.size w.heap.size l.length l.length m ∧ m.take j = l.take j ∧ Below w.heap.size w wr) (fun i _ => l.length - (intOf i).toNat)
  case atStart => exact ⟨0, _, Nat.zero_le _, rfl, HO0.out, rfl, HB0.out⟩
  case round =>
    obtain ⟨j, m, hj, rfl, ho, ht, hb⟩ := hrel
    have HO := Lib.hid ho
    have HB := Lib.hid hb
    have HT := Lib.hid ht
    clear ho hb ht HO0 HB0
    by_cases hlt : j < l.length
    · obtain ⟨b, off, rfl, hbB, c0, c1, c2, c3, c4, c5, c6, c7, c8⟩ := (HR.out.below hB HB.out).cells j hlt
      have HS : Hid (∀ x, l[j] = x → (m.set j x).take (j + 1) = l.take (j + 1)) := Lib.hid (fun x hx => set_takeF HO.out.1 HT.out hlt x hx)
      generalize hx : l[j] = x at *
      have HS2 := Lib.hid (HS.out x rfl)
      go_wp2_with fail
      refine (lto x _).mono ?_
      rintro e w1 ⟨rfl, hb1⟩
      have HO1 := Lib.hid (HO.out.later hb1)
      have HB1 := Lib.hid (HB.out.trans (hb1.mono HB.out.size))
      have hjm : j < m.length := by rw [HO.out.1]; exact hlt
      have hfz := HO1.out.free
      obtain ⟨y, hy⟩ : ∃ y, m[j] = y := ⟨_, rfl⟩
      have q0 := HO1.out.at j hjm 0 (by omega)
      have q1 := HO1.out.at j hjm 1 (by omega)
      have q2 := HO1.out.at j hjm 2 (by omega)
      have q3 := HO1.out.at j hjm 3 (by omega)
      have q4 := HO1.out.at j hjm 4 (by omega)
      have q5 := HO1.out.at j hjm 5 (by omega)
      have q6 := HO1.out.at j hjm 6 (by omega)
      have q7 := HO1.out.at j hjm 7 (by omega)
      have q8 := HO1.out.at j hjm 8 (by omega)
      rw [hy] at q0 q1 q2 q3 q4 q5 q6 q7 q8
      simp only [frL, List.getElem?_cons_zero, List.getElem?_cons_succ, Nat.add_zero] at q0 q1 q2 q3 q4 q5 q6 q7 q8
      clear hb1 c0 c1 c2 c3 c4 c5 c6 c7 c8 hx HS hy
      go_wp2
      go_roundw
      case rel => exact ⟨j + 1, _, hlt, by go_num, HO1.out.all j hjm x, HS2.out, setAt_below HB1.out (Nat.le_refl _) (j * 9) x⟩
      case measure => simp [intOf]; omega
    · obtain rfl : j = l.length := by omega
      have HE : Hid (m = l) := Lib.hid (by
        have h := HT.out
        rw [List.take_of_length_le (by rw [HO.out.1]; exact Nat.le_refl _), List.take_of_length_le (Nat.le_refl _)] at h
        exact h)
      have HO2 := HO
      rw [HE.out] at HO2
      go_wp2
      go_ret
      exact ⟨rfl, HO2.out, HB.out⟩
end Go.Proofs.YtjbppociogoopaaDoor
