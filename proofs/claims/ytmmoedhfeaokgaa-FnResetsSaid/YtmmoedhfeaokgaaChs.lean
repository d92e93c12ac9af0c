/-
  Chunks as values; slices of chunks: rows that can be read, rows of the call's own, and an append to one.
  Rows of chunks of the call's own; what the laws' words on chunks and buffers return.
  Buffers as values, and a buffer in a block of its own.
-/
import Derived.Test.YtmmoedhfeaokgaaBufN
import Derived.Test.YtmmoedhfeaokgaaKitA
import Derived.Laws.OwnMore
import Derived.OwnWalk
namespace Go.Proofs.Ytmmoedhfeaokgaa
open Go.RowKit Go.Deep Go.Proofs.Ytmmoedhfeaokgaa.Num

/-- A chunk, as a value; its cells. -/
abbrev chV (c : Ch) : Value := .agg #[.int .i64 c.off, .string c.data]
def chL (c : Ch) : List Value := [.int .i64 c.off, .string c.data]
theorem chL_len (c : Ch) : (chL c).length = 2 := rfl
abbrev chC (c : Ch) : Array Value := #[.int .i64 c.off, .string c.data]
/-- The zero value. -/
abbrev ch0 : Ch := ⟨0, ⟨#[]⟩⟩
theorem grownc_below {w w' : World} (h : Below w.heap.size w w') : w.grownBy w' none := ⟨h.os, h.tape, h.output, h.size, fun i hi _ => h.block i hi⟩
theorem ownc_later {w w' : World} {base e sz n : Nat} {v : Value} {vs : List Value} (h : w.ownsRow base e sz v n vs) (hb : Below w.heap.size w w') : w'.ownsRow base e sz v n vs :=
  World.ownsRow.kept h (grownc_below hb) (by
    cases v.ownBlock with
    | none => exact .inl rfl
    | some k => exact .inr (by simp))
/-- The slice at A holds these chunks, below block B. -/
def Chs (w : World) (B : Nat) (A : Option Addr) (l : List Ch) : Prop := ∀ j (hj : j < l.length), ∃ b off, A = some ⟨b, off, none⟩ ∧ b < B ∧ ∀ i, i < 2 → w.cell? ⟨b, off + j * 2 + i, none⟩ = (chL l[j])[i]?
theorem Chs.keep {w w' : World} {B : Nat} {A : Option Addr} {l : List Ch} (h : Chs w B A l) (hb : ∀ k, k < B → w'.heap[k]? = w.heap[k]?) : Chs w' B A l := by
  intro j hj
  obtain ⟨b, off, hA, hlt, h1⟩ := h j hj
  exact ⟨b, off, hA, hlt, fun i hi => (World.cell?_of_block (w := w) (hb b hlt)).trans (h1 i hi)⟩
theorem Chs.below {w w' : World} {B K : Nat} {A : Option Addr} {l : List Ch} (h : Chs w B A l) (hK : B ≤ K) (hb : Below K w w') : Chs w' B A l := h.keep fun k hk => hb.block k (by omega)
theorem Chs.up {w : World} {B B' : Nat} {A : Option Addr} {l : List Ch} (h : Chs w B A l) (hB : B ≤ B') : Chs w B' A l := by
  intro j hj
  obtain ⟨b, off, hA, hlt, hc⟩ := h j hj
  exact ⟨b, off, hA, by omega, hc⟩
theorem Chs.nil {w : World} {B : Nat} {A : Option Addr} : Chs w B A [] := fun j hj => absurd hj (by simp)
/-- The cells of one of them. -/
theorem Chs.cells {w : World} {B : Nat} {A : Option Addr} {l : List Ch} (h : Chs w B A l) (j : Nat) (hj : j < l.length) : ∃ b off, A = some ⟨b, off, none⟩ ∧ b < B ∧
    w.cell? ⟨b, off + j * 2, none⟩ = some (.int .i64 l[j].off) ∧ w.cell? ⟨b, off + j * 2 + 1, none⟩ = some (.string l[j].data) := by
  obtain ⟨b, off, hA, hlt, h1⟩ := h j hj
  exact ⟨b, off, hA, hlt, h1 0 (by omega), h1 1 (by omega)⟩

def valsC : List Ch → List Value
  | [] => []
  | x :: l => chL x ++ valsC l
theorem valsC_len (l : List Ch) : (valsC l).length = l.length * 2 := by
  induction l with
  | nil => rfl
  | cons x l ih => simp [valsC, ih, chL_len]; omega
theorem valsC_append (a b : List Ch) : valsC (a ++ b) = valsC a ++ valsC b := by
  induction a with
  | nil => rfl
  | cons x a ih => simp [valsC, ih]
theorem valsC_at (l : List Ch) : ∀ j (h : j < l.length) i, i < 2 → (valsC l)[j * 2 + i]? = (chL l[j])[i]? := by
  induction l with
  | nil => intro j h; cases h
  | cons x l ih =>
    intro j h i hi
    cases j with
    | zero =>
      rw [Nat.zero_mul, Nat.zero_add]
      show (chL x ++ valsC l)[i]? = _
      rw [List.getElem?_append_left (by rw [chL_len]; exact hi)]
      rfl
    | succ j =>
      show (chL x ++ valsC l)[(j + 1) * 2 + i]? = _
      rw [List.getElem?_append_right (by rw [chL_len]; omega), chL_len, show (j + 1) * 2 + i - 2 = j * 2 + i by omega, ih j (by simpa using h) i hi]
      rfl
/-- The slice v is the call's own from block 'base' on and holds these chunks. -/
def OwnC (w : World) (base : Nat) (v : Value) (l : List Ch) : Prop := w.ownsRow base 93 2 v l.length (valsC l)
theorem OwnC.later {w w' : World} {base : Nat} {v : Value} {l : List Ch} (h : OwnC w base v l) (hb : Below w.heap.size w w') : OwnC w' base v l := ownc_later h hb
theorem OwnC.alloc {w : World} {base : Nat} {v : Value} {l : List Ch} (h : OwnC w base v l) (o : Obj) : OwnC (w.alloc o) base v l := World.ownsRow.alloc h o
theorem OwnC.empty {w : World} {base : Nat} : OwnC w base (.slice none 0 0) [] := World.ownsRow_nil w base _ 2
theorem OwnC.lit (w : World) (base cap : Nat) (cur : Array Value) (hb : base ≤ w.heap.size) (hc : cap ≤ maxLen) (hs : cur.size = cap * 2) :
    OwnC (w.alloc (.cells cur 93)) base (.slice (some ⟨w.heap.size, 0, none⟩) 0 cap) [] :=
  World.ownsRow_made w cur cap hb hc (by omega)
theorem OwnC.litAt (w : World) (base g : Nat) (hg : g = w.heap.size) (hb : base ≤ w.heap.size) : OwnC (w.alloc (.cells #[] 93)) base (.slice (some ⟨g, 0, none⟩) 0 0) [] := by
  subst hg
  exact OwnC.lit w base 0 #[] hb (by decide) rfl
theorem OwnC.frs {w : World} {base : Nat} {v : Value} {l : List Ch} (h : OwnC w base v l) : ∃ A cap, v = .slice A l.length cap ∧ l.length ≤ cap ∧ Chs w w.heap.size A l := by
  have h0 := h
  obtain ⟨_, h⟩ := h
  rcases h with ⟨rfl, hn⟩ | ⟨g, cap, cur, rfl, _, hg, hle, _, _, _⟩
  · obtain rfl : l = [] := List.eq_nil_of_length_eq_zero hn
    exact ⟨none, 0, rfl, by simp, Chs.nil⟩
  · refine ⟨_, cap, rfl, hle, fun j hj => ⟨g, 0, rfl, (Array.getElem?_eq_some_iff.1 hg).1, fun i hi => ?_⟩⟩
    rw [Nat.zero_add, World.ownsRow.cellAt h0 (j * 2 + i) (by omega)]
    exact valsC_at l j hj i hi
theorem OwnC.only {w w' : World} {base g : Nat} {v : Value} {l : List Ch} (h : OwnC w base v l) (hg : w.grownBy w' (some g)) (hb : g < base) : OwnC w' base v l :=
  World.ownsRow.kept h hg (by
    cases hv : v.ownBlock with
    | none => exact .inl rfl
    | some k =>
      refine .inr (fun e => ?_)
      have := (World.ownsRow.lt h k hv).1
      have := Option.some.inj e
      omega)

theorem infoC : (Try.prog.info? 93).map (fun i => (i.zero, i.size, i.bytes)) = some (some (chV ch0), 2, 24) := by kernel_rfl
/-- The cells that such a slice leads to. -/
theorem Chs.flat {w : World} {B g off : Nat} {l : List Ch} (h : Chs w B (some ⟨g, off, none⟩) l) : ∀ j u, (valsC l)[j]? = some u → w.cell? ((⟨g, off, none⟩ : Addr).add j) = some u := by
  intro j u hu
  have hj : j < l.length * 2 := by
    have := (List.getElem?_eq_some_iff.1 hu).1
    rwa [valsC_len] at this
  have e : (⟨g, off, none⟩ : Addr).add j = ⟨g, off + j, none⟩ := by
    unfold Addr.add
    split <;> simp_all
  rw [e]
  have hi : j / 2 < l.length := by omega
  obtain ⟨b, o, hA, _, h1⟩ := h (j / 2) hi
  have hA' := Option.some.inj hA
  injection hA' with e1 e2 _
  subst e1
  subst e2
  have hv := valsC_at l (j / 2) hi (j % 2) (by omega)
  have h2x := h1 (j % 2) (by omega)
  rw [show off + j / 2 * 2 + j % 2 = off + j by omega] at h2x
  rw [show j / 2 * 2 + j % 2 = j by omega] at hv
  rw [h2x, ← hv]
  exact hu
theorem valsC_one (l : List Ch) : ∀ u ∈ valsC l, u.oneCell' = true := by
  induction l with
  | nil => intro u hu; cases hu
  | cons x l ih =>
    intro u hu
    rcases List.mem_append.1 hu with hu | hu
    · simp [chL] at hu
      rcases hu with rfl | rfl <;> rfl
    · exact ih u hu

/-- An append of chunks to a slice of the call's own. -/
theorem wpList_append_ch {ops : Array Oper} {rest : List Oper} {o : Oper} {a : Act} {Q : Exit → Act → World → Prop} (W : World) (hgd : o.guard = none) (s x : Operand)
    (ho : o.op = .call { callee := .builtin .append, args := #[s, x], argTypes := #[24, 24] })
    (base : Nat) (v : Value) (l : List Ch) (hs : a.eval s = v) (hown : OwnC W base v l)
    (g off m c B : Nat) (r : List Ch) (hx : a.eval x = .slice (some ⟨g, off, none⟩) m c) (hm : r.length = m) (hr : Chs W B (some ⟨g, off, none⟩) r)
    (hlen : l.length + m ≤ 100000000000) (hbase : base ≤ W.heap.size)
    (h : ∀ v' w', OwnC w' base v' (l ++ r) → Below base W w' → wpList Try.prog ops Q rest (a.put o.dst v') w') : wpList Try.prog ops Q (o :: rest) a W := by
  obtain ⟨i0, hi, hz0, hz1, hz2⟩ := info_parts infoC
  refine wpList_append_own W hgd s x 24 ho base 93 i0 (chV ch0) 2 24 Try.underlying24 hi hz0 hz1 hz2 rfl (by decide) v l.length (valsC l) hs hown ⟨g, off, none⟩ m c (valsC r) hx (by rw [valsC_len, hm]) hr.flat (valsC_one r) (by unfold maxLen; omega) (by omega) hbase ?_
  intro v' w' h1 h2 _
  refine h v' w' ?_ ((Below.refl _ _).grown h2 hbase (fun k hk => (World.ownsRow.lt hown k hk).1))
  unfold OwnC
  rw [valsC_append, List.length_append, hm]
  exact h1
/-- .. as one step of a region that draws. -/
theorem step_append_ch {ops : Array Oper} {o : Oper} {a : Act} {K : Act → World → Prop} {Q : Exit → Act → World → Prop} {E : Prop} (W : World) (hgd : o.guard = none) (s x : Operand)
    (ho : o.op = .call { callee := .builtin .append, args := #[s, x], argTypes := #[24, 24] })
    (base : Nat) (v : Value) (l : List Ch) (hs : a.eval s = v) (hown : OwnC W base v l)
    (g off m c B : Nat) (r : List Ch) (hx : a.eval x = .slice (some ⟨g, off, none⟩) m c) (hm : r.length = m) (hr : Chs W B (some ⟨g, off, none⟩) r)
    (hlen : l.length + m ≤ 100000000000) (hbase : base ≤ W.heap.size)
    (h : ∀ v' w', OwnC w' base v' (l ++ r) → Below base W w' → K (a.put o.dst v') w') :
    if Region.wanted o (yielded ops a.tmps) = true then Oper.wp Try.prog o a W K Q else E := by
  obtain ⟨i0, hi, hz0, hz1, hz2⟩ := info_parts infoC
  have hw : Region.wanted o (yielded ops a.tmps) = true := by simp [Region.wanted, hgd]
  rw [if_pos hw]
  refine wp_append_own W s x 24 ho base 93 i0 (chV ch0) 2 24 Try.underlying24 hi hz0 hz1 hz2 rfl (by decide) v l.length (valsC l) hs hown ⟨g, off, none⟩ m c (valsC r) hx (by rw [valsC_len, hm]) hr.flat (valsC_one r) (by unfold maxLen; omega) (by omega) hbase ?_
  intro v' w' h1 h2 _
  refine h v' w' ?_ ((Below.refl _ _).grown h2 hbase (fun k hk => (World.ownsRow.lt hown k hk).1))
  unfold OwnC
  rw [valsC_append, List.length_append, hm]
  exact h1
/-- One chunk in a block of its own. -/
theorem chs_one (w : World) (f : Ch) (t : TypeId) : Chs (w.alloc (.cells (chC f) t)) (w.heap.size + 1) (some ⟨w.heap.size, 0, none⟩) [f] := by
  intro j hj
  obtain rfl : j = 0 := by simpa using hj
  refine ⟨w.heap.size, 0, rfl, by omega, fun i hi => ?_⟩
  rw [World.cell?_alloc_at _ _ _ _ rfl, Nat.zero_mul, Nat.zero_add]
  rcases (show i = 0 ∨ i = 1 by omega) with rfl | rfl <;> rfl
end Go.Proofs.Ytmmoedhfeaokgaa

namespace Go.Proofs.Ytmmoedhfeaokgaa
open Go.RowKit Go.Deep Go.Proofs.Ytmmoedhfeaokgaa.Num

/-- A row of n ranges in block g, the call's own. -/
def RowC (w : World) (base g n cap : Nat) (l : List Ch) : Prop := l.length = n ∧ w.ownsRow base 93 2 (.slice (some ⟨g, 0, none⟩) n cap) n (valsC l)
theorem RowC.own {w : World} {base g n cap : Nat} {l : List Ch} (h : RowC w base g n cap l) : OwnC w base (.slice (some ⟨g, 0, none⟩) n cap) l := by
  obtain ⟨rfl, h⟩ := h
  exact h
theorem OwnC.row {w : World} {base g cap : Nat} {l : List Ch} (h : OwnC w base (.slice (some ⟨g, 0, none⟩) l.length cap) l) : RowC w base g l.length cap l := ⟨rfl, h⟩
theorem RowC.ge {w : World} {base g n cap : Nat} {l : List Ch} (h : RowC w base g n cap l) : base ≤ g ∧ g < w.heap.size := World.ownsRow.lt h.2 g rfl
theorem RowC.at {w : World} {base g n cap : Nat} {l : List Ch} (h : RowC w base g n cap l) (j : Nat) (hj : j < l.length) (i : Nat) (hi : i < 2) : w.cell? ⟨g, j * 2 + i, none⟩ = (chL l[j])[i]? := by
  have hn := h.1
  exact (World.ownsRow.cellAt h.2 (j * 2 + i) (by omega)).trans (valsC_at l j hj i hi)
theorem RowC.cells {w : World} {base g n cap : Nat} {l : List Ch} (h : RowC w base g n cap l) (j : Nat) (hj : j < l.length) : w.cell? ⟨g, j * 2, none⟩ = some (.int .i64 l[j].off) ∧ w.cell? ⟨g, j * 2 + 1, none⟩ = some (.string l[j].data) :=
  ⟨h.at j hj 0 (by omega), h.at j hj 1 (by omega)⟩
theorem RowC.chs {w : World} {base g n cap : Nat} {l : List Ch} (h : RowC w base g n cap l) : Chs w w.heap.size (some ⟨g, 0, none⟩) l := fun j hj =>
  ⟨g, 0, rfl, h.ge.2, fun i hi => by rw [Nat.zero_add]; exact h.at j hj i hi⟩
theorem RowC.free {w : World} {base g n cap : Nat} {l : List Ch} (h : RowC w base g n cap l) (k : Nat) : w.frozen? ⟨g, k, none⟩ = false := World.ownsRow.frozenAt h.2 k
theorem RowC.later {w w' : World} {base g n cap : Nat} {l : List Ch} (h : RowC w base g n cap l) (hb : Below w.heap.size w w') : RowC w' base g n cap l := ⟨h.1, ownc_later h.2 hb⟩
theorem RowC.alloc {w : World} {base g n cap : Nat} {l : List Ch} (h : RowC w base g n cap l) (o : Obj) : RowC (w.alloc o) base g n cap l := ⟨h.1, World.ownsRow.alloc h.2 o⟩
theorem valsC_set0 (l : List Ch) : ∀ j (h : j < l.length) (a : Int), (valsC l).set (j * 2) (.int .i64 a) = valsC (l.set j ⟨a, l[j].data⟩) := by
  induction l with
  | nil => intro j h; cases h
  | cons x l ih =>
    intro j h a
    cases j with
    | zero => rfl
    | succ j =>
      have := ih j (by simpa using h) a
      rw [show (j + 1) * 2 = j * 2 + 1 + 1 from by omega]
      show Value.int .i64 x.off :: Value.string x.data :: (valsC l).set (j * 2) (.int .i64 a) = _
      rw [this]
      rfl
theorem valsC_set1 (l : List Ch) : ∀ j (h : j < l.length) (b : ByteArray), (valsC l).set (j * 2 + 1) (.string b) = valsC (l.set j ⟨l[j].off, b⟩) := by
  induction l with
  | nil => intro j h; cases h
  | cons x l ih =>
    intro j h a
    cases j with
    | zero => rfl
    | succ j =>
      have := ih j (by simpa using h) a
      rw [show (j + 1) * 2 + 1 = j * 2 + 1 + 1 + 1 from by omega]
      show Value.int .i64 x.off :: Value.string x.data :: (valsC l).set (j * 2 + 1) (.string a) = _
      rw [this]
      rfl
theorem RowC.store0 {w : World} {base g n cap : Nat} {l : List Ch} (h : RowC w base g n cap l) (j : Nat) (hj : j < l.length) (a : Int) : RowC (w.setCell ⟨g, j * 2, none⟩ (.int .i64 a)) base g n cap (l.set j ⟨a, l[j].data⟩) := by
  refine ⟨by simpa using h.1, ?_⟩
  rw [← valsC_set0 l j hj a]
  exact (World.ownsRow.stored h.2 (j * 2) (.int .i64 a)).1
theorem RowC.store1 {w : World} {base g n cap : Nat} {l : List Ch} (h : RowC w base g n cap l) (j : Nat) (hj : j < l.length) (b : ByteArray) : RowC (w.setCell ⟨g, j * 2 + 1, none⟩ (.string b)) base g n cap (l.set j ⟨l[j].off, b⟩) := by
  refine ⟨by simpa using h.1, ?_⟩
  rw [← valsC_set1 l j hj b]
  exact (World.ownsRow.stored h.2 (j * 2 + 1) (.string b)).1
theorem RowC.store {w : World} {base g n cap : Nat} {l : List Ch} (h : RowC w base g n cap l) (j : Nat) (hj : j < l.length) (x : Ch) : RowC ((w.setCell ⟨g, j * 2, none⟩ (.int .i64 x.off)).setCell ⟨g, j * 2 + 1, none⟩ (.string x.data)) base g n cap (l.set j x) := by
  have h1 := (h.store0 j hj x.off).store1 j (by simpa using hj) x.data
  simpa using h1
theorem set_takeC {l m : List Ch} {j : Nat} (hl : m.length = l.length) (h : m.take j = l.take j) (hj : j < l.length) (x : Ch) (hx : l[j] = x) : (m.set j x).take (j + 1) = l.take (j + 1) := by
  rw [List.take_succ_eq_append_getElem hj, List.take_succ_eq_append_getElem (by simpa [hl] using hj), hx]
  have e : (m.set j x).take j = l.take j := by rw [List.take_set, List.set_eq_of_length_le (by rw [List.length_take]; omega), h]
  rw [e]
  simp
theorem madeC (n : Nat) : (madeCells #[Value.int .i64 0, Value.string ⟨#[]⟩] (n * 2)).toList = valsC (List.replicate n ch0) := by
  apply List.ext_getElem?
  intro j
  by_cases hj : j < n * 2
  · have hv := valsC_at (List.replicate n ch0) (j / 2) (by simp; omega) (j % 2) (by omega)
    rw [show j / 2 * 2 + j % 2 = j by omega, List.getElem_replicate] at hv
    rw [hv]
    simp [madeCells, hj]
    rcases (show j % 2 = 0 ∨ j % 2 = 1 by omega) with e | e <;> simp [e, chL]
  · rw [List.getElem?_eq_none (by simp [madeCells]; omega), List.getElem?_eq_none (by rw [valsC_len]; simp; omega)]
theorem make_chs (n : Nat) (hn : n ≤ 1048576) (w : World) :
    ∃ w', (Instr.makeSlice 24 (.int .i64 (n : Int)) (.int .i64 (n : Int))).run Try.prog w = .ok (.slice (some ⟨w.heap.size, 0, none⟩) n n) w' ∧ RowC w' w.heap.size w.heap.size n n (List.replicate n ch0) ∧ Below w.heap.size w w' := by
  obtain ⟨i0, hi, hz0, hz1, hz2⟩ := info_parts infoC
  obtain ⟨w', h1, h2, h3⟩ := run_make_full w w.heap.size 24 93 i0 (chV ch0) 2 Try.underlying24 hi hz0 hz1 .i64 .i64 n (by rw [hz2]; omega) (by unfold maxLen; omega) (Nat.le_refl _)
  refine ⟨w', h1, ⟨by simp, ?_⟩, (Below.refl _ _).grown h3 (Nat.le_refl _) (fun k hk => by cases hk)⟩
  rw [← madeC]
  exact h2
end Go.Proofs.Ytmmoedhfeaokgaa

namespace Go.Proofs.Ytmmoedhfeaokgaa
open Go.RowKit Go.Deep Go.Proofs.Ytmmoedhfeaokgaa.Num

/-- A buffer, as a value: its place and the slice of its chunks. -/
abbrev bfV (n : Int) (v : Value) : Value := .agg #[.int .i64 n, v]
/-- A block holds a buffer. -/
def BoxB (w : World) (g : Nat) (n : Int) (v : Value) : Prop := w.heap[g]? = some (.cells #[.int .i64 n, v] 26 (0, 0))
theorem BoxB.cells {w : World} {g : Nat} {n : Int} {v : Value} (c : BoxB w g n v) : w.cell? ⟨g, 0, none⟩ = some (.int .i64 n) ∧ w.cell? ⟨g, 1, none⟩ = some v := ⟨cell_of_row w g 0 _ _ _ c, cell_of_row w g 1 _ _ _ c⟩
theorem BoxB.free {w : World} {g : Nat} {n : Int} {v : Value} (c : BoxB w g n v) (k : Nat) : w.frozen? ⟨g, k, none⟩ = false := by
  unfold BoxB at c
  simp [World.frozen?, c]
theorem BoxB.new (w : World) (n : Int) (v : Value) : BoxB (w.alloc (.cells #[.int .i64 n, v] 26)) w.heap.size n v := heap_alloc_new w _
theorem BoxB.lt {w : World} {g : Nat} {n : Int} {v : Value} (c : BoxB w g n v) : g < w.heap.size := by
  unfold BoxB at c
  exact (Array.getElem?_eq_some_iff.1 c).1
theorem BoxB.below {w w' : World} {g K : Nat} {n : Int} {v : Value} (c : BoxB w g n v) (h : Below K w w') (hg : g < K) : BoxB w' g n v := (h.block g hg).trans c
theorem BoxB.alloc {w : World} {g : Nat} {n : Int} {v : Value} (c : BoxB w g n v) (o : Obj) : BoxB (w.alloc o) g n v := (heap_alloc_old w o (BoxB.lt c)).trans c
theorem BoxB.set0 {w : World} {g : Nat} {n : Int} {v : Value} (c : BoxB w g n v) (x : Int) : BoxB (w.setCell ⟨g, 0, none⟩ (.int .i64 x)) g x v := by
  unfold BoxB at c ⊢
  simp [World.setCell, Array.getElem?_modify, c]
theorem BoxB.set1 {w : World} {g : Nat} {n : Int} {v : Value} (c : BoxB w g n v) (u : Value) : BoxB (w.setCell ⟨g, 1, none⟩ u) g n u := by
  unfold BoxB at c ⊢
  simp [World.setCell, Array.getElem?_modify, c]
/-- The buffer's block, and all that was there. -/
def HeldB (w : World) (n : Int) (v : Value) (W : World) : Prop := BoxB W w.heap.size n v ∧ Below w.heap.size w W
theorem HeldB.start (w : World) (n : Int) (v : Value) : HeldB w n v (w.alloc (.cells #[.int .i64 n, v] 26)) := ⟨BoxB.new w n v, (Below.refl _ _).alloc (Nat.le_refl _) _⟩
theorem HeldB.next {w W W1 : World} {n : Int} {v : Value} (h : HeldB w n v W) (hb : Below W.heap.size W W1) : HeldB w n v W1 := ⟨h.1.below hb h.1.lt, h.2.trans (hb.mono h.2.size)⟩
theorem HeldB.alloc {w W : World} {n : Int} {v : Value} (h : HeldB w n v W) (o : Obj) : HeldB w n v (W.alloc o) := ⟨h.1.alloc _, h.2.alloc h.2.size _⟩
theorem HeldB.drew {w W : World} {n : Int} {v : Value} (h : HeldB w n v W) : HeldB w n v W.drew := ⟨h.1, h.2.drew⟩
/-- Sizes and places that a machine can hold. -/
def inB (l : List Ch) : Prop := ∀ c ∈ l, c.data.size ≤ maxLen ∧ -9223372036854775808 ≤ c.off ∧ c.off ≤ 9223372036854775807
end Go.Proofs.Ytmmoedhfeaokgaa
