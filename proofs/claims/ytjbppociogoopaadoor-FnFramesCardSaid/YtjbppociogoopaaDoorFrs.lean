/-
  Slices of frames: rows that can be read, rows of the call's own, and an append to one.
-/
import Derived.Test.YtjbppociogoopaaDoorFrV
import Derived.Test.YtjbppociogoopaaDoorBuild
import Derived.Laws.OwnMore
import Derived.OwnWalk
namespace Go.Proofs.YtjbppociogoopaaDoor
open Go.RowKit Go.Deep Go.Proofs.YtjbppociogoopaaDoor.Num

/-- The slice at A holds these frames, below block B. -/
def Frs (w : World) (B : Nat) (A : Option Addr) (l : List Fr) : Prop := ∀ j (hj : j < l.length), ∃ b off, A = some ⟨b, off, none⟩ ∧ b < B ∧ ∀ i, i < 9 → w.cell? ⟨b, off + j * 9 + i, none⟩ = (frL l[j])[i]?
theorem Frs.keep {w w' : World} {B : Nat} {A : Option Addr} {l : List Fr} (h : Frs w B A l) (hb : ∀ k, k < B → w'.heap[k]? = w.heap[k]?) : Frs w' B A l := by
  intro j hj
  obtain ⟨b, off, hA, hlt, h1⟩ := h j hj
  exact ⟨b, off, hA, hlt, fun i hi => (World.cell?_of_block (w := w) (hb b hlt)).trans (h1 i hi)⟩
theorem Frs.below {w w' : World} {B K : Nat} {A : Option Addr} {l : List Fr} (h : Frs w B A l) (hK : B ≤ K) (hb : Below K w w') : Frs w' B A l := h.keep fun k hk => hb.block k (by omega)
theorem Frs.up {w : World} {B B' : Nat} {A : Option Addr} {l : List Fr} (h : Frs w B A l) (hB : B ≤ B') : Frs w B' A l := by
  intro j hj
  obtain ⟨b, off, hA, hlt, hc⟩ := h j hj
  exact ⟨b, off, hA, by omega, hc⟩
theorem Frs.nil {w : World} {B : Nat} {A : Option Addr} : Frs w B A [] := fun j hj => absurd hj (by simp)
/-- The cells of one of them. -/
theorem Frs.cells {w : World} {B : Nat} {A : Option Addr} {l : List Fr} (h : Frs w B A l) (j : Nat) (hj : j < l.length) : ∃ b off, A = some ⟨b, off, none⟩ ∧ b < B ∧
    w.cell? ⟨b, off + j * 9, none⟩ = some (.int .i64 l[j].kind) ∧ w.cell? ⟨b, off + j * 9 + 1, none⟩ = some (.int .i64 l[j].stream) ∧ w.cell? ⟨b, off + j * 9 + 2, none⟩ = some (.int .i64 l[j].offset) ∧
    w.cell? ⟨b, off + j * 9 + 3, none⟩ = some (.string l[j].data) ∧ w.cell? ⟨b, off + j * 9 + 4, none⟩ = some (.bool l[j].fin) ∧ w.cell? ⟨b, off + j * 9 + 5, none⟩ = some (.int .i64 l[j].code) ∧
    w.cell? ⟨b, off + j * 9 + 6, none⟩ = some (.int .i64 l[j].limit) ∧ w.cell? ⟨b, off + j * 9 + 7, none⟩ = some (.int .i64 l[j].final) ∧ w.cell? ⟨b, off + j * 9 + 8, none⟩ = some (.bool l[j].uni) := by
  obtain ⟨b, off, hA, hlt, h1⟩ := h j hj
  exact ⟨b, off, hA, hlt, h1 0 (by omega), h1 1 (by omega), h1 2 (by omega), h1 3 (by omega), h1 4 (by omega), h1 5 (by omega), h1 6 (by omega), h1 7 (by omega), h1 8 (by omega)⟩

def valsF : List Fr → List Value
  | [] => []
  | x :: l => frL x ++ valsF l
theorem valsF_len (l : List Fr) : (valsF l).length = l.length * 9 := by
  induction l with
  | nil => rfl
  | cons x l ih => simp [valsF, ih, frL_len]; omega
theorem valsF_append (a b : List Fr) : valsF (a ++ b) = valsF a ++ valsF b := by
  induction a with
  | nil => rfl
  | cons x a ih => simp [valsF, ih]
theorem valsF_at (l : List Fr) : ∀ j (h : j < l.length) i, i < 9 → (valsF l)[j * 9 + i]? = (frL l[j])[i]? := by
  induction l with
  | nil => intro j h; cases h
  | cons x l ih =>
    intro j h i hi
    cases j with
    | zero =>
      rw [Nat.zero_mul, Nat.zero_add]
      show (frL x ++ valsF l)[i]? = _
      rw [List.getElem?_append_left (by rw [frL_len]; exact hi)]
      rfl
    | succ j =>
      show (frL x ++ valsF l)[(j + 1) * 9 + i]? = _
      rw [List.getElem?_append_right (by rw [frL_len]; omega), frL_len, show (j + 1) * 9 + i - 9 = j * 9 + i by omega, ih j (by simpa using h) i hi]
      rfl
/-- The slice v is the call's own from block 'base' on and holds these frames. -/
def OwnF (w : World) (base : Nat) (v : Value) (l : List Fr) : Prop := w.ownsRow base 25 9 v l.length (valsF l)
theorem OwnF.later {w w' : World} {base : Nat} {v : Value} {l : List Fr} (h : OwnF w base v l) (hb : Below w.heap.size w w') : OwnF w' base v l := owns_later h hb
theorem OwnF.alloc {w : World} {base : Nat} {v : Value} {l : List Fr} (h : OwnF w base v l) (o : Obj) : OwnF (w.alloc o) base v l := World.ownsRow.alloc h o
theorem OwnF.empty {w : World} {base : Nat} : OwnF w base (.slice none 0 0) [] := World.ownsRow_nil w base _ 9
theorem OwnF.lit (w : World) (base cap : Nat) (cur : Array Value) (hb : base ≤ w.heap.size) (hc : cap ≤ maxLen) (hs : cur.size = cap * 9) :
    OwnF (w.alloc (.cells cur 25)) base (.slice (some ⟨w.heap.size, 0, none⟩) 0 cap) [] :=
  World.ownsRow_made w cur cap hb hc (by omega)
theorem OwnF.litAt (w : World) (base g : Nat) (hg : g = w.heap.size) (hb : base ≤ w.heap.size) : OwnF (w.alloc (.cells #[] 25)) base (.slice (some ⟨g, 0, none⟩) 0 0) [] := by
  subst hg
  exact OwnF.lit w base 0 #[] hb (by decide) rfl
theorem OwnF.frs {w : World} {base : Nat} {v : Value} {l : List Fr} (h : OwnF w base v l) : ∃ A cap, v = .slice A l.length cap ∧ l.length ≤ cap ∧ Frs w w.heap.size A l := by
  have h0 := h
  obtain ⟨_, h⟩ := h
  rcases h with ⟨rfl, hn⟩ | ⟨g, cap, cur, rfl, _, hg, hle, _, _, _⟩
  · obtain rfl : l = [] := List.eq_nil_of_length_eq_zero hn
    exact ⟨none, 0, rfl, by simp, Frs.nil⟩
  · refine ⟨_, cap, rfl, hle, fun j hj => ⟨g, 0, rfl, (Array.getElem?_eq_some_iff.1 hg).1, fun i hi => ?_⟩⟩
    rw [Nat.zero_add, World.ownsRow.cellAt h0 (j * 9 + i) (by omega)]
    exact valsF_at l j hj i hi
theorem OwnF.only {w w' : World} {base g : Nat} {v : Value} {l : List Fr} (h : OwnF w base v l) (hg : w.grownBy w' (some g)) (hb : g < base) : OwnF w' base v l :=
  World.ownsRow.kept h hg (by
    cases hv : v.ownBlock with
    | none => exact .inl rfl
    | some k =>
      refine .inr (fun e => ?_)
      have := (World.ownsRow.lt h k hv).1
      have := Option.some.inj e
      omega)

theorem infoF : (Tryd.prog.info? 25).map (fun i => (i.zero, i.size, i.bytes)) = some (some (frV fr0), 9, 80) := by kernel_rfl
/-- The cells that such a slice leads to. -/
theorem Frs.flat {w : World} {B g off : Nat} {l : List Fr} (h : Frs w B (some ⟨g, off, none⟩) l) : ∀ j u, (valsF l)[j]? = some u → w.cell? ((⟨g, off, none⟩ : Addr).add j) = some u := by
  intro j u hu
  have hj : j < l.length * 9 := by
    have := (List.getElem?_eq_some_iff.1 hu).1
    rwa [valsF_len] at this
  have e : (⟨g, off, none⟩ : Addr).add j = ⟨g, off + j, none⟩ := by
    unfold Addr.add
    split <;> simp_all
  rw [e]
  have hi : j / 9 < l.length := by omega
  obtain ⟨b, o, hA, _, h1⟩ := h (j / 9) hi
  have hA' := Option.some.inj hA
  injection hA' with e1 e2 _
  subst e1
  subst e2
  have hv := valsF_at l (j / 9) hi (j % 9) (by omega)
  have h9 := h1 (j % 9) (by omega)
  rw [show off + j / 9 * 9 + j % 9 = off + j by omega] at h9
  rw [show j / 9 * 9 + j % 9 = j by omega] at hv
  rw [h9, ← hv]
  exact hu
theorem valsF_one (l : List Fr) : ∀ u ∈ valsF l, u.oneCell' = true := by
  induction l with
  | nil => intro u hu; cases hu
  | cons x l ih =>
    intro u hu
    rcases List.mem_append.1 hu with hu | hu
    · simp [frL] at hu
      rcases hu with rfl | rfl | rfl | rfl | rfl | rfl | rfl | rfl | rfl <;> rfl
    · exact ih u hu

/-- An append of frames to a slice of the call's own. -/
theorem wpList_append_fr {ops : Array Oper} {rest : List Oper} {o : Oper} {a : Act} {Q : Exit → Act → World → Prop} (W : World) (hgd : o.guard = none) (s x : Operand)
    (ho : o.op = .call { callee := .builtin .append, args := #[s, x], argTypes := #[36, 36] })
    (base : Nat) (v : Value) (l : List Fr) (hs : a.eval s = v) (hown : OwnF W base v l)
    (g off m c B : Nat) (r : List Fr) (hx : a.eval x = .slice (some ⟨g, off, none⟩) m c) (hm : r.length = m) (hr : Frs W B (some ⟨g, off, none⟩) r)
    (hlen : l.length + m ≤ 100000000000) (hbase : base ≤ W.heap.size)
    (h : ∀ v' w', OwnF w' base v' (l ++ r) → Below base W w' → wpList Tryd.prog ops Q rest (a.put o.dst v') w') : wpList Tryd.prog ops Q (o :: rest) a W := by
  obtain ⟨i0, hi, hz0, hz1, hz2⟩ := info_parts infoF
  refine wpList_append_own W hgd s x 36 ho base 25 i0 (frV fr0) 9 80 Tryd.underlying36 hi hz0 hz1 hz2 rfl (by decide) v l.length (valsF l) hs hown ⟨g, off, none⟩ m c (valsF r) hx (by rw [valsF_len, hm]) hr.flat (valsF_one r) (by unfold maxLen; omega) (by omega) hbase ?_
  intro v' w' h1 h2 _
  refine h v' w' ?_ ((Below.refl _ _).grown h2 hbase (fun k hk => (World.ownsRow.lt hown k hk).1))
  unfold OwnF
  rw [valsF_append, List.length_append, hm]
  exact h1
/-- .. as one step of a region that draws. -/
theorem step_append_fr {ops : Array Oper} {o : Oper} {a : Act} {K : Act → World → Prop} {Q : Exit → Act → World → Prop} {E : Prop} (W : World) (hgd : o.guard = none) (s x : Operand)
    (ho : o.op = .call { callee := .builtin .append, args := #[s, x], argTypes := #[36, 36] })
    (base : Nat) (v : Value) (l : List Fr) (hs : a.eval s = v) (hown : OwnF W base v l)
    (g off m c B : Nat) (r : List Fr) (hx : a.eval x = .slice (some ⟨g, off, none⟩) m c) (hm : r.length = m) (hr : Frs W B (some ⟨g, off, none⟩) r)
    (hlen : l.length + m ≤ 100000000000) (hbase : base ≤ W.heap.size)
    (h : ∀ v' w', OwnF w' base v' (l ++ r) → Below base W w' → K (a.put o.dst v') w') :
    if Region.wanted o (yielded ops a.tmps) = true then Oper.wp Tryd.prog o a W K Q else E := by
  obtain ⟨i0, hi, hz0, hz1, hz2⟩ := info_parts infoF
  have hw : Region.wanted o (yielded ops a.tmps) = true := by simp [Region.wanted, hgd]
  rw [if_pos hw]
  refine wp_append_own W s x 36 ho base 25 i0 (frV fr0) 9 80 Tryd.underlying36 hi hz0 hz1 hz2 rfl (by decide) v l.length (valsF l) hs hown ⟨g, off, none⟩ m c (valsF r) hx (by rw [valsF_len, hm]) hr.flat (valsF_one r) (by unfold maxLen; omega) (by omega) hbase ?_
  intro v' w' h1 h2 _
  refine h v' w' ?_ ((Below.refl _ _).grown h2 hbase (fun k hk => (World.ownsRow.lt hown k hk).1))
  unfold OwnF
  rw [valsF_append, List.length_append, hm]
  exact h1
/-- One frame in a block of its own. -/
theorem frs_one (w : World) (f : Fr) (t : TypeId) : Frs (w.alloc (.cells (frC f) t)) (w.heap.size + 1) (some ⟨w.heap.size, 0, none⟩) [f] := by
  intro j hj
  obtain rfl : j = 0 := by simpa using hj
  refine ⟨w.heap.size, 0, rfl, by omega, fun i hi => ?_⟩
  rw [World.cell?_alloc_at _ _ _ _ rfl, Nat.zero_mul, Nat.zero_add]
  rcases (show i = 0 ∨ i = 1 ∨ i = 2 ∨ i = 3 ∨ i = 4 ∨ i = 5 ∨ i = 6 ∨ i = 7 ∨ i = 8 by omega) with rfl | rfl | rfl | rfl | rfl | rfl | rfl | rfl | rfl <;> rfl
end Go.Proofs.YtjbppociogoopaaDoor
