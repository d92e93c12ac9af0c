/-
  Slices of ints: rows that can be read, rows of the call's own, and an append to one.
-/
import Derived.Test.YtjohbfdifdjldaaKit
import Derived.Laws.OwnMore
import Derived.OwnWalk
namespace Go.Proofs.Ytjohbfdifdjldaa
open Go.RowKit Go.Deep Go.Proofs.Ytjohbfdifdjldaa.Num

/-- The slice at A holds these ints, below block B. -/
def Ints (w : World) (B : Nat) (A : Option Addr) (zs : List Int) : Prop := ∀ j (hj : j < zs.length), ∃ b off, A = some ⟨b, off, none⟩ ∧ b < B ∧ w.cell? ⟨b, off + j, none⟩ = some (.int .i64 zs[j])
theorem Ints.keep {w w' : World} {B : Nat} {A : Option Addr} {zs : List Int} (h : Ints w B A zs) (hb : ∀ k, k < B → w'.heap[k]? = w.heap[k]?) : Ints w' B A zs := by
  intro j hj
  obtain ⟨b, off, hA, hlt, hc⟩ := h j hj
  exact ⟨b, off, hA, hlt, (World.cell?_of_block (w := w) (hb b hlt)).trans hc⟩
theorem Ints.below {w w' : World} {B K : Nat} {A : Option Addr} {zs : List Int} (h : Ints w B A zs) (hK : B ≤ K) (hb : Below K w w') : Ints w' B A zs := h.keep fun k hk => hb.block k (by omega)
theorem Ints.up {w : World} {B B' : Nat} {A : Option Addr} {zs : List Int} (h : Ints w B A zs) (hB : B ≤ B') : Ints w B' A zs := by
  intro j hj
  obtain ⟨b, off, hA, hlt, hc⟩ := h j hj
  exact ⟨b, off, hA, by omega, hc⟩
theorem Ints.nil {w : World} {B : Nat} {A : Option Addr} : Ints w B A [] := fun j hj => absurd hj (by simp)

def valsI (zs : List Int) : List Value := zs.map (Value.int .i64)
theorem valsI_len (zs : List Int) : (valsI zs).length = zs.length := by simp [valsI]
def cellsI (zs : List Int) : Array Value := (valsI zs).toArray
theorem owns_laterI {w w' : World} {base e sz n : Nat} {v : Value} {vs : List Value} (h : w.ownsRow base e sz v n vs) (hb : Below w.heap.size w w') : w'.ownsRow base e sz v n vs :=
  World.ownsRow.kept h (show w.grownBy w' none from ⟨hb.os, hb.tape, hb.output, hb.size, fun i hi _ => hb.block i hi⟩) (by
    cases v.ownBlock with
    | none => exact .inl rfl
    | some k => exact .inr (by simp))
/-- The slice v is the call's own from block 'base' on and holds these ints. -/
def OwnI (w : World) (base : Nat) (v : Value) (zs : List Int) : Prop := w.ownsRow base 3 1 v zs.length (valsI zs)
theorem OwnI.later {w w' : World} {base : Nat} {v : Value} {zs : List Int} (h : OwnI w base v zs) (hb : Below w.heap.size w w') : OwnI w' base v zs := owns_laterI h hb
theorem OwnI.alloc {w : World} {base : Nat} {v : Value} {zs : List Int} (h : OwnI w base v zs) (o : Obj) : OwnI (w.alloc o) base v zs := World.ownsRow.alloc h o
theorem OwnI.empty {w : World} {base : Nat} : OwnI w base (.slice none 0 0) [] := World.ownsRow_nil w base _ 1
theorem OwnI.lit (w : World) (base cap : Nat) (cur : Array Value) (hb : base ≤ w.heap.size) (hc : cap ≤ maxLen) (hs : cur.size = cap) :
    OwnI (w.alloc (.cells cur 3)) base (.slice (some ⟨w.heap.size, 0, none⟩) 0 cap) [] :=
  World.ownsRow_made w cur cap hb hc (by omega)
/-- What such a slice is. -/
theorem OwnI.ints {w : World} {base : Nat} {v : Value} {zs : List Int} (h : OwnI w base v zs) : ∃ A cap, v = .slice A zs.length cap ∧ zs.length ≤ cap ∧ Ints w w.heap.size A zs := by
  have h0 := h
  obtain ⟨_, h⟩ := h
  rcases h with ⟨rfl, hn⟩ | ⟨g, cap, cur, rfl, _, hg, hle, _, _, _⟩
  · obtain rfl : zs = [] := List.eq_nil_of_length_eq_zero hn
    exact ⟨none, 0, rfl, by simp, Ints.nil⟩
  · refine ⟨_, cap, rfl, hle, fun j hj => ⟨g, 0, rfl, (Array.getElem?_eq_some_iff.1 hg).1, ?_⟩⟩
    have hc := World.ownsRow.cellAt h0 j (by omega)
    rw [Nat.zero_add, hc]
    simp [valsI, hj]

theorem infoI : (Try.prog.info? 3).map (fun i => (i.zero, i.size, i.bytes)) = some (some (.int .i64 0), 1, 8) := by kernel_rfl

theorem cellsI_at (zs : List Int) (j : Nat) (h : j < zs.length) : (cellsI zs)[j]? = some (.int .i64 zs[j]) := by
  simp [cellsI, valsI, h]
theorem cellsI_made (n : Nat) : Go.madeCells #[Value.int .i64 0] n = cellsI (List.replicate n 0) := by
  apply Array.ext
  · simp [cellsI, valsI, size_madeCells]
  · intro i h1 h2
    simp [Go.madeCells, cellsI, valsI, Nat.mod_one]
theorem make_ints (n : Nat) (hn : n ≤ 35184372088832) (W : World) :
    (Instr.makeSlice 22 (.int .i64 (n : Int)) (.int .i64 (n : Int))).run Try.prog W = .ok (.slice (some ⟨W.heap.size, 0, none⟩) n n) (W.alloc (.cells (cellsI (List.replicate n 0)) 3)) := by
  rw [← cellsI_made]
  exact run_make_row' 22 3 (.int .i64 0) 8 Try.underlying22 infoI rfl .i64 .i64 n (by omega) (by omega) W

/-- An append of one int to a slice of the call's own. -/
theorem wpList_append_int {ops : Array Oper} {rest : List Oper} {o : Oper} {a : Act} {Q : Exit → Act → World → Prop} (W : World) (hgd : o.guard = none) (s x : Operand)
    (ho : o.op = .call { callee := .builtin .append, args := #[s, x], argTypes := #[22, 22] })
    (base : Nat) (v : Value) (zs : List Int) (hs : a.eval s = v) (hown : OwnI W base v zs)
    (g c : Nat) (z : Int) (hx : a.eval x = .slice (some ⟨g, 0, none⟩) 1 c) (hz : W.cell? ⟨g, 0, none⟩ = some (.int .i64 z))
    (hlen : zs.length ≤ 1000000000000) (hbase : base ≤ W.heap.size)
    (h : ∀ v' w', OwnI w' base v' (zs ++ [z]) → Below base W w' → wpList Try.prog ops Q rest (a.put o.dst v') w') : wpList Try.prog ops Q (o :: rest) a W := by
  obtain ⟨i0, hi, hz0, hz1, hz2⟩ := info_parts infoI
  refine wpList_append_own W hgd s x 22 ho base 3 i0 (.int .i64 0) 1 8 Try.underlying22 hi hz0 hz1 hz2 rfl (by decide) v zs.length (valsI zs) hs hown ⟨g, 0, none⟩ 1 c [.int .i64 z] hx ?_ ?_ ?_ ?_ ?_ hbase ?_
  · simp
  · intro j u hu
    match j, hu with
    | 0, hu =>
      simp at hu
      subst hu
      simpa [Addr.add] using hz
  · intro u hu
    simp at hu
    subst hu
    rfl
  · unfold maxLen; omega
  · omega
  · intro v' w' h1 h2 _
    refine h v' w' ?_ ?_
    · have e : valsI (zs ++ [z]) = valsI zs ++ [.int .i64 z] := by simp [valsI]
      unfold OwnI
      rw [e, List.length_append]
      exact h1
    · exact (Below.refl _ _).grown h2 hbase (fun k hk => (World.ownsRow.lt hown k hk).1)
end Go.Proofs.Ytjohbfdifdjldaa
