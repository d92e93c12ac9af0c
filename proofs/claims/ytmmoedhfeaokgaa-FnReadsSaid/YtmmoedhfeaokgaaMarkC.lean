/-
  What laws.markChunkS and laws.heldChunkS return.
-/
import Derived.Test.YtmmoedhfeaokgaaLCh
import Derived.Test.YtmmoedhfeaokgaaMarkT
namespace Go.Proofs.Ytmmoedhfeaokgaa
open Go.RowKit Go.Deep Go.Proofs.Ytmmoedhfeaokgaa.Num

/-- The marks of one chunk, from k on. -/
def markC (k : Int) : Ch := ⟨k, ⟨(markT (k + 1)).toArray⟩⟩
/-- .. of n chunks. -/
def marksC (k : Nat) : Nat → List Ch
  | 0 => []
  | n + 1 => markC (k : Int) :: marksC (k + 2) n
theorem marksC_len (n : Nat) : ∀ k, (marksC k n).length = n := by
  induction n with
  | zero => intro k; rfl
  | succ n ih => intro k; simp [marksC, ih]
theorem marksC_at (n : Nat) : ∀ k j (h : j < (marksC k n).length), (marksC k n)[j] = markC ((k + 2 * j : Nat) : Int) := by
  induction n with
  | zero => intro k j h; simp [marksC] at h
  | succ n ih =>
    intro k j h
    cases j with
    | zero => simp [marksC]
    | succ j =>
      have h2 := ih (k + 2) j (by simpa [marksC] using h)
      simp only [marksC, List.getElem_cons_succ]
      rw [h2]
      congr 1
      omega
theorem only_setC (w : World) (g : Nat) (k : Nat) (u : Value) : w.grownBy (w.setCell ⟨g, k, none⟩ u) (some g) :=
  ⟨rfl, rfl, rfl, by simp [World.setCell], fun i _ hne => Below.heap_setCell w ⟨g, k, none⟩ u i (by rintro rfl; exact hne rfl)⟩
theorem only_later {a b c : World} {g : Option Nat} (h : a.grownBy b g) (hb : Below b.heap.size b c) : a.grownBy c g :=
  ⟨hb.os.trans h.os, hb.tape.trans h.tape, hb.output.trans h.output, Nat.le_trans h.size hb.size, fun i hi hne => (hb.block i (Nat.lt_of_lt_of_le hi h.size)).trans (h.block i hi hne)⟩
theorem only_more {a b : World} {g : Nat} (h : a.grownBy b (some g)) (k : Nat) (u : Value) : a.grownBy (b.setCell ⟨g, k, none⟩ u) (some g) :=
  ⟨h.os, h.tape, h.output, by simpa [World.setCell] using h.size, fun i hi hne => (Below.heap_setCell b ⟨g, k, none⟩ u i (by rintro rfl; exact hne rfl)).trans (h.block i hi hne)⟩
theorem only_refl (w : World) (g : Option Nat) : w.grownBy w g := ⟨rfl, rfl, rfl, Nat.le_refl _, fun _ _ _ => rfl⟩
theorem only_first {a b : World} {g : Option Nat} {o : Obj} (h : (a.alloc o).grownBy b g) : a.grownBy b g :=
  ⟨h.os, h.tape, h.output, Nat.le_trans (by simp) h.size, fun i hi hne => (h.block i (by simp; omega) hne).trans (heap_alloc_old a o hi)⟩
theorem mtext1 (q : Nat) (hq : q ≤ 999999991) (w : World) :
    Calls Try.prog 95 #[.int .i64 ((q : Int) + 1)] w fun e w' => e = .returned (.string ⟨(markT ((q : Int) + 1)).toArray⟩) ∧ Below w.heap.size w w' := by
  have h := mtext (q + 1) w (by omega)
  rw [show ((q + 1 : Nat) : Int) = (q : Int) + 1 by omega] at h
  exact h

/-- A slice in the middle of a row of the call's own: chunks ahead of it, its own, and chunks behind it. -/
def MidC (w : World) (base g off n : Nat) (l : List Ch) : Prop := l.length = n ∧ ∃ (N c : Nat) (p r : List Ch), off = p.length * 2 ∧ RowC w base g N c (p ++ (l ++ r))
theorem RowC.mid {w : World} {base g n cap : Nat} {l : List Ch} (h : RowC w base g n cap l) : MidC w base g 0 n l := ⟨h.1, n, cap, [], [], rfl, by rw [List.nil_append, List.append_nil]; exact h⟩
theorem MidC.ge {w : World} {base g off n : Nat} {l : List Ch} (h : MidC w base g off n l) : base ≤ g ∧ g < w.heap.size := by
  obtain ⟨_, N, c, p, r, _, h⟩ := h
  exact h.ge
theorem mid_at (p l r : List Ch) (j : Nat) (hj : j < l.length) : ∃ h : p.length + j < (p ++ (l ++ r)).length, (p ++ (l ++ r))[p.length + j] = l[j] := by
  have h : p.length + j < (p ++ (l ++ r)).length := by rw [List.length_append, List.length_append]; omega
  refine ⟨h, ?_⟩
  rw [List.getElem_append_right (by omega)]
  simp only [Nat.add_sub_cancel_left]
  rw [List.getElem_append_left hj]
theorem MidC.at {w : World} {base g off n : Nat} {l : List Ch} (h : MidC w base g off n l) (j : Nat) (hj : j < l.length) (i : Nat) (hi : i < 2) : w.cell? ⟨g, off + j * 2 + i, none⟩ = (chL l[j])[i]? := by
  obtain ⟨_, N, c, p, r, rfl, h⟩ := h
  obtain ⟨h1, h2⟩ := mid_at p l r j hj
  have h3 := h.at (p.length + j) h1 i hi
  rw [h2, Nat.add_mul] at h3
  exact h3
theorem MidC.cells {w : World} {base g off n : Nat} {l : List Ch} (h : MidC w base g off n l) (j : Nat) (hj : j < l.length) : w.cell? ⟨g, off + j * 2, none⟩ = some (.int .i64 l[j].off) ∧ w.cell? ⟨g, off + j * 2 + 1, none⟩ = some (.string l[j].data) :=
  ⟨h.at j hj 0 (by omega), h.at j hj 1 (by omega)⟩
theorem MidC.chs {w : World} {base g off n : Nat} {l : List Ch} (h : MidC w base g off n l) : Chs w w.heap.size (some ⟨g, off, none⟩) l := fun j hj => ⟨g, off, rfl, h.ge.2, fun i hi => h.at j hj i hi⟩
theorem MidC.free {w : World} {base g off n : Nat} {l : List Ch} (h : MidC w base g off n l) (k : Nat) : w.frozen? ⟨g, k, none⟩ = false := by
  obtain ⟨_, N, c, p, r, _, h⟩ := h
  exact h.free k
theorem MidC.later {w w' : World} {base g off n : Nat} {l : List Ch} (h : MidC w base g off n l) (hb : Below w.heap.size w w') : MidC w' base g off n l := by
  obtain ⟨h0, N, c, p, r, h1, h⟩ := h
  exact ⟨h0, N, c, p, r, h1, h.later hb⟩
theorem MidC.kept {w w' : World} {base g off n : Nat} {l : List Ch} {ob : Option Nat} (h : MidC w base g off n l) (hg : w.grownBy w' ob) (hne : some g ≠ ob) : MidC w' base g off n l := by
  obtain ⟨h0, N, c, p, r, h1, h⟩ := h
  exact ⟨h0, N, c, p, r, h1, h.1, World.ownsRow.kept h.2 hg (.inr hne)⟩
theorem mid_set (p l r : List Ch) (j : Nat) (hj : j < l.length) (x : Ch) : (p ++ (l ++ r)).set (p.length + j) x = p ++ (l.set j x ++ r) := by
  rw [List.set_append_right _ _ (by omega), Nat.add_sub_cancel_left, List.set_append_left _ _ hj]
theorem MidC.store0 {w : World} {base g off n : Nat} {l : List Ch} (h : MidC w base g off n l) (j : Nat) (hj : j < l.length) (a : Int) : MidC (w.setCell ⟨g, off + j * 2, none⟩ (.int .i64 a)) base g off n (l.set j ⟨a, l[j].data⟩) := by
  obtain ⟨h0, N, c, p, r, rfl, h⟩ := h
  obtain ⟨h1, h2⟩ := mid_at p l r j hj
  have h3 := h.store0 (p.length + j) h1 a
  rw [h2, mid_set p l r j hj, Nat.add_mul] at h3
  exact ⟨by simpa using h0, N, c, p, r, rfl, h3⟩
theorem MidC.store1 {w : World} {base g off n : Nat} {l : List Ch} (h : MidC w base g off n l) (j : Nat) (hj : j < l.length) (b : ByteArray) : MidC (w.setCell ⟨g, off + j * 2 + 1, none⟩ (.string b)) base g off n (l.set j ⟨l[j].off, b⟩) := by
  obtain ⟨h0, N, c, p, r, rfl, h⟩ := h
  obtain ⟨h1, h2⟩ := mid_at p l r j hj
  have h3 := h.store1 (p.length + j) h1 b
  rw [h2, mid_set p l r j hj, Nat.add_mul] at h3
  exact ⟨by simpa using h0, N, c, p, r, rfl, h3⟩
/-- The slice v is the call's own from block 'base' on, maybe a part of a row, and holds these chunks. -/
def OwnX (w : World) (base : Nat) (v : Value) (l : List Ch) : Prop := (v = .slice none 0 0 ∧ l = []) ∨ ∃ g off cap, v = .slice (some ⟨g, off, none⟩) l.length cap ∧ l.length ≤ cap ∧ MidC w base g off l.length l
theorem OwnC.x {w : World} {base : Nat} {v : Value} {l : List Ch} (h : OwnC w base v l) : OwnX w base v l := by
  have h0 := h
  obtain ⟨_, h⟩ := h
  rcases h with ⟨rfl, hz⟩ | ⟨g, cap, cur, rfl, _, _, hle, _, _, _⟩
  · exact .inl ⟨rfl, List.eq_nil_of_length_eq_zero hz⟩
  · exact .inr ⟨g, 0, cap, rfl, hle, (OwnC.row h0).mid⟩
theorem OwnX.frs {w : World} {base : Nat} {v : Value} {l : List Ch} (h : OwnX w base v l) : ∃ A cap, v = .slice A l.length cap ∧ l.length ≤ cap ∧ Chs w w.heap.size A l := by
  rcases h with ⟨rfl, rfl⟩ | ⟨g, off, cap, rfl, hle, h⟩
  · exact ⟨none, 0, rfl, Nat.le_refl _, Chs.nil⟩
  · exact ⟨_, cap, rfl, hle, h.chs⟩
theorem OwnX.chs {w : World} {base : Nat} {A : Option Addr} {cap : Nat} {l : List Ch} (h : OwnX w base (.slice A l.length cap) l) : Chs w w.heap.size A l := by
  obtain ⟨A', cap', e, _, hc⟩ := h.frs
  injection e with e1 _ _
  subst e1
  exact hc
theorem OwnX.lt {w : World} {base : Nat} {v : Value} {l : List Ch} (h : OwnX w base v l) : ∀ k, v.ownBlock = some k → base ≤ k ∧ k < w.heap.size := by
  rcases h with ⟨rfl, rfl⟩ | ⟨g, off, cap, rfl, hle, h⟩
  · intro k hk; cases hk
  · intro k hk
    injection hk with hk
    subst hk
    exact h.ge
theorem OwnX.kept {w w' : World} {base : Nat} {v : Value} {l : List Ch} {ob : Option Nat} (h : OwnX w base v l) (hg : w.grownBy w' ob) (hne : v.ownBlock = none ∨ v.ownBlock ≠ ob) : OwnX w' base v l := by
  rcases h with h | ⟨g, off, cap, rfl, hle, h⟩
  · exact .inl h
  · refine .inr ⟨g, off, cap, rfl, hle, h.kept hg (hne.resolve_left fun e => by cases e)⟩
theorem OwnX.later {w w' : World} {base : Nat} {v : Value} {l : List Ch} (h : OwnX w base v l) (hb : Below w.heap.size w w') : OwnX w' base v l :=
  h.kept (grownc_below hb) (by
    cases v.ownBlock with
    | none => exact .inl rfl
    | some k => exact .inr (by simp))
theorem OwnX.alloc {w : World} {base : Nat} {v : Value} {l : List Ch} (h : OwnX w base v l) (o : Obj) : OwnX (w.alloc o) base v l := h.later ((Below.refl _ _).alloc (Nat.le_refl _) _)

set_option maxRecDepth 100000 in
set_option maxHeartbeats 2000000 in
/-- laws.markChunkS, on a part of a row of the call's own. -/
theorem markrowC (l : List Ch) (base g off n cap : Nat) (w : World) (ho : MidC w base g off n l) (hn : n ≤ 10000000) :
    Calls Try.prog 79 #[.slice (some ⟨g, off, none⟩) n cap, .int .i64 1] w fun e w' => e = .returned (.int .i64 ((1 + 2 * n : Nat) : Int)) ∧ MidC w' base g off n (marksC 1 n) ∧ Below base w w' ∧ w.grownBy w' (some g) := by
  have HO := Lib.hid ho
  have hbg := ho.ge.1
  clear ho
  go_enter Try.func79, Try.ntmps79
  go_wp2
  go_loopw [1, 5] (fun kk i wr => ∃ (j q : Nat) (m : List Ch), j ≤ n ∧ i = .int .i64 j ∧ kk = .int .i64 (q : Int) ∧ q = 1 + 2 * j ∧ MidC wr base g off n m ∧ m.take j = (marksC 1 n).take j ∧ Below base w wr ∧ w.grownBy wr (some g)) (fun _ i _ => n - (intOf i).toNat)
  case atStart => exact ⟨0, 1, l, Nat.zero_le _, rfl, rfl, rfl, HO.out, rfl, Below.refl _ _, only_refl _ _⟩
  case round =>
    obtain ⟨j, q, m, hj, rfl, rfl, hq, hown, ht, hb, hgr⟩ := hrel
    have HGR := Lib.hid hgr
    clear hgr
    have HW := Lib.hid hown
    have HB := Lib.hid hb
    have HT := Lib.hid ht
    have HQ := Lib.hid hq
    clear hown hb ht
    by_cases hlt : j < n
    · have hjm : j < m.length := by rw [HW.out.1]; exact hlt
      have hjk : j < (marksC 1 n).length := by rw [marksC_len]; exact hlt
      have hq0 : q ≤ 1000000000 - 9 := by omega
      clear hq
      have hfz := HW.out.free
      obtain ⟨q0, q1⟩ := HW.out.cells j hjm
      have H3 := Lib.hid (HW.out.store0 j hjm (q : Int))
      have HB3 := Lib.hid (HB.out.setCell (p := ⟨g, off + j * 2, none⟩) hbg (.int .i64 (q : Int)))
      have HG3 := Lib.hid (only_more HGR.out (off + j * 2) (.int .i64 (q : Int)))
      generalize hmd : m[j].data = md at *
      clear hmd
      go_upto_region 6 with fail
      clear q0 q1 hfz
      generalize wr.setCell ⟨g, off + j * 2, none⟩ (.int .i64 (q : Int)) = wa at *
      go_wp2_with fail
      refine (mtext1 q (by omega) wa).mono ?_
      rintro e wb ⟨rfl, hbb⟩
      have H4 := Lib.hid (H3.out.later hbb)
      have HB4 := Lib.hid (HB3.out.trans (hbb.mono (Nat.le_trans hbg (Nat.le_of_lt H3.out.ge.2))))
      have HG4 := Lib.hid (only_later HG3.out hbb)
      clear hbb
      have hjs : j < (m.set j ⟨(q : Int), md⟩).length := by simpa using hjm
      have hfz := H4.out.free
      obtain ⟨q0, q1⟩ := H4.out.cells j hjs
      have H5 := Lib.hid (H4.out.store1 j hjs ⟨(markT ((q : Int) + 1)).toArray⟩)
      rw [List.getElem_set_self] at q0 q1 H5
      rw [List.set_set] at H5
      have HSM := Lib.hid (set_takeC (l := marksC 1 n) (m := m) (by rw [marksC_len]; exact HW.out.1) HT.out hjk (markC (q : Int)) (by rw [marksC_at, HQ.out]))
      clear hjs
      go_wp2
      go_roundw
      case rel =>
        refine ⟨j + 1, q + 2, _, by omega, by go_num, ?_, by have h := HQ.out; omega, H5.out, HSM.out, ?_, only_more HG4.out _ _⟩
        · congr 1
        · exact HB4.out.setCell (p := ⟨_, _, _⟩) hbg _
      case measure => simp [intOf]; omega
    · obtain rfl : j = n := by omega
      have HE : Hid (m = marksC 1 j) := Lib.hid (by
        have h := HT.out
        rw [List.take_of_length_le (by rw [HW.out.1]; exact Nat.le_refl _), List.take_of_length_le (by rw [marksC_len]; exact Nat.le_refl _)] at h
        exact h)
      rw [HE.out] at HW
      subst hq
      go_wp2
      go_ret
      exact ⟨rfl, HW.out, HB.out, HGR.out⟩

set_option maxRecDepth 100000 in
/-- laws.markChunkS, on no slice. -/
theorem marknoneC (cap : Nat) (A : Option Addr) (w : World) :
    Calls Try.prog 79 #[.slice A 0 cap, .int .i64 1] w fun e w' => e = .returned (.int .i64 1) ∧ w' = w := by
  go_enter Try.func79, Try.ntmps79
  go_wp2
  go_loop [1, 5] (fun kk i => i = .int .i64 0 ∧ kk = .int .i64 1) (fun _ i => (intOf i).toNat)
  case atStart => exact ⟨rfl, rfl⟩
  case round =>
    obtain ⟨rfl, rfl⟩ := hrel
    go_wp2
    go_ret
    exact ⟨rfl, rfl⟩

/-- The marks of a slice of the call's own: nothing, or a part of a row. -/
theorem markanyC (l : List Ch) (v : Value) (base : Nat) (w : World) (ho : OwnX w base v l) (hn : l.length ≤ 10000000) :
    Calls Try.prog 79 #[v, .int .i64 1] w fun e w' => e = .returned (.int .i64 ((1 + 2 * l.length : Nat) : Int)) ∧ OwnX w' base v (marksC 1 l.length) ∧ Below base w w' ∧ w.grownBy w' v.ownBlock := by
  rcases ho with ⟨rfl, rfl⟩ | ⟨g, off, cap, rfl, hle, h⟩
  · refine (marknoneC 0 none w).mono ?_
    rintro e w' ⟨rfl, rfl⟩
    exact ⟨rfl, .inl ⟨rfl, rfl⟩, Below.refl _ _, only_refl _ _⟩
  · refine (markrowC l base g off l.length cap w h hn).mono ?_
    rintro e w' ⟨rfl, h1, h2, h3⟩
    refine ⟨rfl, .inr ⟨g, off, cap, by rw [marksC_len], by rw [marksC_len]; exact hle, by rw [marksC_len]; exact h1⟩, h2, h3⟩

set_option maxRecDepth 100000 in
set_option maxHeartbeats 2000000 in
/-- laws.heldChunkS, of a slice that holds the marks. -/
theorem heldC (n : Nat) (A : Option Addr) (cap B : Nat) (w : World) (hB : B ≤ w.heap.size) (hr : Chs w B A (marksC 1 n)) (hn : n ≤ 10000000) :
    Calls Try.prog 80 #[.slice A n cap, .int .i64 1] w fun e w' => e = .returned (.int .i64 ((1 + 2 * n : Nat) : Int)) ∧ Below w.heap.size w w' := by
  have HR := Lib.hid hr
  clear hr
  go_enter Try.func80, Try.ntmps80
  go_wp2
  go_loopw [1, 5] (fun kk i wr => ∃ (j q : Nat), j ≤ n ∧ i = .int .i64 j ∧ kk = .int .i64 (q : Int) ∧ q = 1 + 2 * j ∧ Below w.heap.size w wr) (fun _ i _ => n - (intOf i).toNat)
  case atStart => exact ⟨0, 1, Nat.zero_le _, rfl, rfl, rfl, Below.refl _ _⟩
  case round =>
    obtain ⟨j, q, hj, rfl, rfl, hq, hb⟩ := hrel
    have HB := Lib.hid hb
    have HQ := Lib.hid hq
    clear hb
    by_cases hlt : j < n
    · have hjk : j < (marksC 1 n).length := by rw [marksC_len]; exact hlt
      obtain ⟨b, off, rfl, hbB, c0, c1⟩ := (HR.out.below hB HB.out).cells j hjk
      have hq0 : q ≤ 1000000000 - 9 := by omega
      rw [marksC_at, ← hq] at c0 c1
      dsimp only [markC] at c0 c1
      clear hq hjk
      have HM := Lib.hid (mtext1 q (by omega) wr.drew)
      generalize (⟨(markT ((q : Int) + 1)).toArray⟩ : ByteArray) = tx at *
      have hbw : b < wr.heap.size := Nat.lt_of_lt_of_le hbB (Nat.le_trans hB HB.out.size)
      have hS : ∀ W, Below wr.heap.size wr W → W.cell? ⟨b, off + j * 2 + 1, none⟩ = some (.string tx) := fun W h => (h.cell hbw).trans c1
      go_upto_region 7 with fail
      go_region_held3 (fun W => W.cell? ⟨b, off + j * 2 + 1, none⟩ = some (.string tx)) (first | exact hS _ (Below.refl _ _).drew | exact hS _ ((Below.refl _ _).drew.trans hb2)) (first | (go_at_call 95; refine (HM.out).mono ?_; rintro e w2 ⟨rfl, hb2⟩))
      have hbl : Below wr.heap.size wr w2 := (Below.refl _ _).drew.trans hb2
      have HB2 := Lib.hid (HB.out.trans (hbl.mono HB.out.size))
      clear c0 c1 hb2 hbl hS
      go_wp2
      go_roundw
      case rel => exact ⟨j + 1, q + 2, by omega, by go_num, by congr 1, by have h := HQ.out; omega, HB2.out⟩
      case measure => simp [intOf]; omega
    · obtain rfl : j = n := by omega
      subst hq
      go_wp2
      go_ret
      exact ⟨rfl, HB.out⟩
end Go.Proofs.Ytmmoedhfeaokgaa
