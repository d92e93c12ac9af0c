/-
  Slices of ranges: rows that can be read, rows of the call's own, and an append to one.
-/
import Derived.Test.YtjohbfdifdjldaaDrawNew
import Derived.Test.YtjohbfdifdjldaaRangeN
import Derived.Laws.OwnMore
import Derived.OwnWalk
namespace Go.Proofs.Ytjohbfdifdjldaa
open Go.RowKit Go.Deep Go.Proofs.Ytjohbfdifdjldaa.Num

/-- A range as a value. -/
abbrev rgV (x : Rg) : Value := .agg #[.int .i64 x.1, .int .i64 x.2]
/-- The slice at A holds these ranges, below block B. -/
def Rgs (w : World) (B : Nat) (A : Option Addr) (l : List Rg) : Prop := ∀ j (hj : j < l.length), ∃ b off, A = some ⟨b, off, none⟩ ∧ b < B ∧ w.cell? ⟨b, off + j * 2, none⟩ = some (.int .i64 l[j].1) ∧ w.cell? ⟨b, off + j * 2 + 1, none⟩ = some (.int .i64 l[j].2)
theorem Rgs.keep {w w' : World} {B : Nat} {A : Option Addr} {l : List Rg} (h : Rgs w B A l) (hb : ∀ k, k < B → w'.heap[k]? = w.heap[k]?) : Rgs w' B A l := by
  intro j hj
  obtain ⟨b, off, hA, hlt, h1, h2⟩ := h j hj
  exact ⟨b, off, hA, hlt, (World.cell?_of_block (w := w) (hb b hlt)).trans h1, (World.cell?_of_block (w := w) (hb b hlt)).trans h2⟩
theorem Rgs.below {w w' : World} {B K : Nat} {A : Option Addr} {l : List Rg} (h : Rgs w B A l) (hK : B ≤ K) (hb : Below K w w') : Rgs w' B A l := h.keep fun k hk => hb.block k (by omega)
theorem Rgs.up {w : World} {B B' : Nat} {A : Option Addr} {l : List Rg} (h : Rgs w B A l) (hB : B ≤ B') : Rgs w B' A l := by
  intro j hj
  obtain ⟨b, off, hA, hlt, hc⟩ := h j hj
  exact ⟨b, off, hA, by omega, hc⟩
theorem Rgs.nil {w : World} {B : Nat} {A : Option Addr} : Rgs w B A [] := fun j hj => absurd hj (by simp)
/-- All numbers fit an int. -/
def InR (l : List Rg) : Prop := ∀ x ∈ l, (-9223372036854775808 ≤ x.1 ∧ x.1 ≤ 9223372036854775807) ∧ -9223372036854775808 ≤ x.2 ∧ x.2 ≤ 9223372036854775807
theorem okR.inR {p : Int} {l : List Rg} (hp : -1 ≤ p) (h : okR p l) : InR l := fun x hx => by
  have := h.below x hx
  omega

def valsR : List Rg → List Value
  | [] => []
  | x :: l => .int .i64 x.1 :: .int .i64 x.2 :: valsR l
theorem valsR_len (l : List Rg) : (valsR l).length = l.length * 2 := by
  induction l with
  | nil => rfl
  | cons x l ih => simp [valsR, ih]; omega
theorem valsR_append (a b : List Rg) : valsR (a ++ b) = valsR a ++ valsR b := by
  induction a with
  | nil => rfl
  | cons x a ih => simp [valsR, ih]
theorem valsR_at (l : List Rg) : ∀ j (h : j < l.length), (valsR l)[j * 2]? = some (.int .i64 l[j].1) ∧ (valsR l)[j * 2 + 1]? = some (.int .i64 l[j].2) := by
  induction l with
  | nil => intro j h; cases h
  | cons x l ih =>
    intro j h
    cases j with
    | zero => exact ⟨rfl, rfl⟩
    | succ j =>
      have := ih j (by simpa using h)
      rw [show (j + 1) * 2 = j * 2 + 1 + 1 from by omega]
      exact this
/-- The slice v is the call's own from block 'base' on and holds these ranges. -/
def OwnR (w : World) (base : Nat) (v : Value) (l : List Rg) : Prop := w.ownsRow base 54 2 v l.length (valsR l)
theorem grown_below {w w' : World} (h : Below w.heap.size w w') : w.grownBy w' none := ⟨h.os, h.tape, h.output, h.size, fun i hi _ => h.block i hi⟩
theorem owns_later {w w' : World} {base e sz n : Nat} {v : Value} {vs : List Value} (h : w.ownsRow base e sz v n vs) (hb : Below w.heap.size w w') : w'.ownsRow base e sz v n vs :=
  World.ownsRow.kept h (grown_below hb) (by
    cases v.ownBlock with
    | none => exact .inl rfl
    | some k => exact .inr (by simp))
theorem OwnR.later {w w' : World} {base : Nat} {v : Value} {l : List Rg} (h : OwnR w base v l) (hb : Below w.heap.size w w') : OwnR w' base v l := owns_later h hb
theorem OwnR.alloc {w : World} {base : Nat} {v : Value} {l : List Rg} (h : OwnR w base v l) (o : Obj) : OwnR (w.alloc o) base v l := World.ownsRow.alloc h o
theorem OwnR.empty {w : World} {base : Nat} : OwnR w base (.slice none 0 0) [] := World.ownsRow_nil w base _ 2
theorem OwnR.lit (w : World) (base cap : Nat) (cur : Array Value) (hb : base ≤ w.heap.size) (hc : cap ≤ maxLen) (hs : cur.size = cap * 2) :
    OwnR (w.alloc (.cells cur 54)) base (.slice (some ⟨w.heap.size, 0, none⟩) 0 cap) [] :=
  World.ownsRow_made w cur cap hb hc (by omega)
theorem OwnR.rgs {w : World} {base : Nat} {v : Value} {l : List Rg} (h : OwnR w base v l) : ∃ A cap, v = .slice A l.length cap ∧ l.length ≤ cap ∧ Rgs w w.heap.size A l := by
  have h0 := h
  obtain ⟨_, h⟩ := h
  rcases h with ⟨rfl, hn⟩ | ⟨g, cap, cur, rfl, _, hg, hle, _, _, _⟩
  · obtain rfl : l = [] := List.eq_nil_of_length_eq_zero hn
    exact ⟨none, 0, rfl, by simp, Rgs.nil⟩
  · refine ⟨_, cap, rfl, hle, fun j hj => ⟨g, 0, rfl, (Array.getElem?_eq_some_iff.1 hg).1, ?_, ?_⟩⟩
    · rw [Nat.zero_add, World.ownsRow.cellAt h0 (j * 2) (by omega)]
      exact (valsR_at l j hj).1
    · rw [Nat.zero_add, World.ownsRow.cellAt h0 (j * 2 + 1) (by omega)]
      exact (valsR_at l j hj).2
theorem OwnR.only {w w' : World} {base g : Nat} {v : Value} {l : List Rg} (h : OwnR w base v l) (hg : w.grownBy w' (some g)) (hb : g < base) : OwnR w' base v l :=
  World.ownsRow.kept h hg (by
    cases hv : v.ownBlock with
    | none => exact .inl rfl
    | some k =>
      refine .inr (fun e => ?_)
      have := (World.ownsRow.lt h k hv).1
      have := Option.some.inj e
      omega)

theorem infoR : (Try.prog.info? 54).map (fun i => (i.zero, i.size, i.bytes)) = some (some (.agg #[.int .i64 0, .int .i64 0]), 2, 16) := by kernel_rfl
/-- The cells that such a slice leads to. -/
theorem Rgs.flat {w : World} {B g off : Nat} {l : List Rg} (h : Rgs w B (some ⟨g, off, none⟩) l) : ∀ j u, (valsR l)[j]? = some u → w.cell? ((⟨g, off, none⟩ : Addr).add j) = some u := by
  intro j u hu
  have hj : j < l.length * 2 := by
    have := (List.getElem?_eq_some_iff.1 hu).1
    rwa [valsR_len] at this
  have e : (⟨g, off, none⟩ : Addr).add j = ⟨g, off + j, none⟩ := by
    unfold Addr.add
    split <;> simp_all
  rw [e]
  have hi : j / 2 < l.length := by omega
  obtain ⟨b, o, hA, _, h1, h2⟩ := h (j / 2) hi
  have hA' := Option.some.inj hA
  injection hA' with e1 e2 _
  subst e1
  subst e2
  have hv := valsR_at l (j / 2) hi
  rcases Nat.mod_two_eq_zero_or_one j with hm | hm
  · have ej : j = j / 2 * 2 := by omega
    rw [ej] at hu ⊢
    rw [hv.1] at hu
    rw [h1]
    exact hu
  · have ej : j = j / 2 * 2 + 1 := by omega
    rw [ej] at hu ⊢
    rw [hv.2] at hu
    rw [← Nat.add_assoc, h2]
    exact hu
theorem valsR_one (l : List Rg) : ∀ u ∈ valsR l, u.oneCell' = true := by
  induction l with
  | nil => intro u hu; cases hu
  | cons x l ih =>
    intro u hu
    rcases List.mem_cons.1 hu with rfl | hu
    · rfl
    · rcases List.mem_cons.1 hu with rfl | hu
      · rfl
      · exact ih u hu

/-- An append of ranges to a slice of the call's own. -/
theorem wpList_append_rgs {ops : Array Oper} {rest : List Oper} {o : Oper} {a : Act} {Q : Exit → Act → World → Prop} (W : World) (hgd : o.guard = none) (s x : Operand)
    (ho : o.op = .call { callee := .builtin .append, args := #[s, x], argTypes := #[25, 25] })
    (base : Nat) (v : Value) (l : List Rg) (hs : a.eval s = v) (hown : OwnR W base v l)
    (g off m c B : Nat) (r : List Rg) (hx : a.eval x = .slice (some ⟨g, off, none⟩) m c) (hm : r.length = m) (hr : Rgs W B (some ⟨g, off, none⟩) r)
    (hlen : l.length + m ≤ 1000000000000) (hbase : base ≤ W.heap.size)
    (h : ∀ v' w', OwnR w' base v' (l ++ r) → Below base W w' → wpList Try.prog ops Q rest (a.put o.dst v') w') : wpList Try.prog ops Q (o :: rest) a W := by
  obtain ⟨i0, hi, hz0, hz1, hz2⟩ := info_parts infoR
  refine wpList_append_own W hgd s x 25 ho base 54 i0 (.agg #[.int .i64 0, .int .i64 0]) 2 16 Try.underlying25 hi hz0 hz1 hz2 rfl (by decide) v l.length (valsR l) hs hown ⟨g, off, none⟩ m c (valsR r) hx (by rw [valsR_len, hm]) hr.flat (valsR_one r) (by unfold maxLen; omega) (by omega) hbase ?_
  intro v' w' h1 h2 _
  refine h v' w' ?_ ((Below.refl _ _).grown h2 hbase (fun k hk => (World.ownsRow.lt hown k hk).1))
  unfold OwnR
  rw [valsR_append, List.length_append, hm]
  exact h1
/-- .. as one step of a region that draws. -/
theorem step_append_rgs {ops : Array Oper} {o : Oper} {a : Act} {K : Act → World → Prop} {Q : Exit → Act → World → Prop} {E : Prop} (W : World) (hgd : o.guard = none) (s x : Operand)
    (ho : o.op = .call { callee := .builtin .append, args := #[s, x], argTypes := #[25, 25] })
    (base : Nat) (v : Value) (l : List Rg) (hs : a.eval s = v) (hown : OwnR W base v l)
    (g off m c B : Nat) (r : List Rg) (hx : a.eval x = .slice (some ⟨g, off, none⟩) m c) (hm : r.length = m) (hr : Rgs W B (some ⟨g, off, none⟩) r)
    (hlen : l.length + m ≤ 1000000000000) (hbase : base ≤ W.heap.size)
    (h : ∀ v' w', OwnR w' base v' (l ++ r) → Below base W w' → K (a.put o.dst v') w') :
    if Region.wanted o (yielded ops a.tmps) = true then Oper.wp Try.prog o a W K Q else E := by
  obtain ⟨i0, hi, hz0, hz1, hz2⟩ := info_parts infoR
  have hw : Region.wanted o (yielded ops a.tmps) = true := by simp [Region.wanted, hgd]
  rw [if_pos hw]
  refine wp_append_own W s x 25 ho base 54 i0 (.agg #[.int .i64 0, .int .i64 0]) 2 16 Try.underlying25 hi hz0 hz1 hz2 rfl (by decide) v l.length (valsR l) hs hown ⟨g, off, none⟩ m c (valsR r) hx (by rw [valsR_len, hm]) hr.flat (valsR_one r) (by unfold maxLen; omega) (by omega) hbase ?_
  intro v' w' h1 h2 _
  refine h v' w' ?_ ((Below.refl _ _).grown h2 hbase (fun k hk => (World.ownsRow.lt hown k hk).1))
  unfold OwnR
  rw [valsR_append, List.length_append, hm]
  exact h1
/-- One range in a block of its own. -/
theorem rgs_one (w : World) (x : Rg) (t : TypeId) : Rgs (w.alloc (.cells #[.int .i64 x.1, .int .i64 x.2] t)) (w.heap.size + 1) (some ⟨w.heap.size, 0, none⟩) [x] := by
  intro j hj
  obtain rfl : j = 0 := by simpa using hj
  exact ⟨w.heap.size, 0, rfl, by omega, by rw [World.cell?_alloc_at _ _ _ _ rfl]; rfl, by rw [World.cell?_alloc_at _ _ _ _ rfl]; rfl⟩
end Go.Proofs.Ytjohbfdifdjldaa
