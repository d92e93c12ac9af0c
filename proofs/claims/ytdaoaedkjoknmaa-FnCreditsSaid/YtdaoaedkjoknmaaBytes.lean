/-
  A slice of bytes of the call's own: what an append to it leaves, and the string that it becomes.
-/
import Derived.Test.YtdaoaedkjoknmaaKit
import Derived.Laws.OwnMore
import Derived.OwnWalk
namespace Go.Proofs.Ytdaoaedkjoknmaa
open Go.RowKit Go.Deep Go.Proofs.Ytdaoaedkjoknmaa.Num

def valsB (l : List UInt8) : List Value := l.map fun b => Value.int .u8 (b.toNat : Int)
theorem valsB_len (l : List UInt8) : (valsB l).length = l.length := by simp [valsB]
/-- The slice v is the call's own from block 'base' on and holds the bytes l. -/
def OwnB (w : World) (base : Nat) (v : Value) (l : List UInt8) : Prop := w.ownsRow base 5 1 v l.length (valsB l)
theorem OwnB.alloc {w : World} {base : Nat} {v : Value} {l : List UInt8} (h : OwnB w base v l) (o : Obj) : OwnB (w.alloc o) base v l := World.ownsRow.alloc h o
theorem OwnB.drew {w : World} {base : Nat} {v : Value} {l : List UInt8} (h : OwnB w base v l) : OwnB w.drew base v l := h
theorem OwnB.lit (w : World) (base cap : Nat) (cur : Array Value) (hb : base ≤ w.heap.size) (hc : cap ≤ maxLen) (hs : cur.size = cap) :
    OwnB (w.alloc (.cells cur 5)) base (.slice (some ⟨w.heap.size, 0, none⟩) 0 cap) [] :=
  World.ownsRow_made w cur cap hb hc (by omega)
theorem OwnB.empty {w : World} {base : Nat} : OwnB w base (.slice none 0 0) [] := World.ownsRow_nil w base _ 1

theorem cell_new (W : World) (l : List UInt8) : ∀ j (hj : j < l.length), (W.alloc (.cells (cellsB l) 5)).cell? ⟨W.heap.size, j, none⟩ = some (.int .u8 (l[j].toNat : Int)) := by
  intro j hj
  rw [World.cell?_alloc_at _ _ _ _ rfl, cellsB_at l j hj]

theorem wpList_append_bytes {ops : Array Oper} {rest : List Oper} {o : Oper} {a : Act} {Q : Exit → Act → World → Prop} (W : World) (hgd : o.guard = none) (s x : Operand)
    (ho : o.op = .call { callee := .builtin .append, args := #[s, x], argTypes := #[22, 22] })
    (base : Nat) (v : Value) (l : List UInt8) (hs : a.eval s = v) (hown : OwnB W base v l)
    (g m c : Nat) (news : List UInt8) (hx : a.eval x = .slice (some ⟨g, 0, none⟩) m c) (hm : news.length = m)
    (hnews : ∀ j (hj : j < news.length), W.cell? ⟨g, j, none⟩ = some (.int .u8 (news[j].toNat : Int)))
    (hlen : l.length + m ≤ 140737488355328) (hbase : base ≤ W.heap.size)
    (h : ∀ v' w', OwnB w' base v' (l ++ news) → Below base W w' → wpList Try.prog ops Q rest (a.put o.dst v') w') : wpList Try.prog ops Q (o :: rest) a W := by
  obtain ⟨i0, hi, hz0, hz1, hz2⟩ := info_parts infoB
  refine wpList_append_own W hgd s x 22 ho base 5 i0 (.int .u8 0) 1 1 Try.underlying22 hi hz0 hz1 hz2 rfl (by decide) v l.length (valsB l) hs hown ⟨g, 0, none⟩ m c (valsB news) hx ?_ ?_ ?_ ?_ ?_ hbase ?_
  · rw [valsB_len]; omega
  · intro j u hu
    have e : (⟨g, 0, none⟩ : Addr).add j = ⟨g, j, none⟩ := by simp [Addr.add]; omega
    rw [e]
    have hj : j < news.length := by
      have := (List.getElem?_eq_some_iff.1 hu).1
      simpa [valsB] using this
    rw [hnews j hj]
    simp [valsB, hj] at hu
    rw [hu]
  · intro u hu
    simp [valsB] at hu
    obtain ⟨b, _, rfl⟩ := hu
    rfl
  · unfold maxLen; omega
  · omega
  · intro v' w' h1 h2 _
    refine h v' w' ?_ ?_
    · have e : valsB (l ++ news) = valsB l ++ valsB news := by simp [valsB]
      unfold OwnB
      rw [e, List.length_append, hm]
      exact h1
    · exact (Below.refl _ _).grown h2 hbase (fun k hk => (World.ownsRow.lt hown k hk).1)

theorem step_append_bytes {ops : Array Oper} {o : Oper} {a : Act} {K : Act → World → Prop} {Q : Exit → Act → World → Prop} {E : Prop} (W : World) (hgd : o.guard = none) (s x : Operand)
    (ho : o.op = .call { callee := .builtin .append, args := #[s, x], argTypes := #[22, 22] })
    (base : Nat) (v : Value) (l : List UInt8) (hs : a.eval s = v) (hown : OwnB W base v l)
    (g m c : Nat) (news : List UInt8) (hx : a.eval x = .slice (some ⟨g, 0, none⟩) m c) (hm : news.length = m)
    (hnews : ∀ j (hj : j < news.length), W.cell? ⟨g, j, none⟩ = some (.int .u8 (news[j].toNat : Int)))
    (hlen : l.length + m ≤ 140737488355328) (hbase : base ≤ W.heap.size)
    (h : ∀ v' w', OwnB w' base v' (l ++ news) → Below base W w' → K (a.put o.dst v') w') :
    if Region.wanted o (yielded ops a.tmps) = true then Oper.wp Try.prog o a W K Q else E := by
  obtain ⟨i0, hi, hz0, hz1, hz2⟩ := info_parts infoB
  have hw : Region.wanted o (yielded ops a.tmps) = true := by simp [Region.wanted, hgd]
  rw [if_pos hw]
  refine wp_append_own W s x 22 ho base 5 i0 (.int .u8 0) 1 1 Try.underlying22 hi hz0 hz1 hz2 rfl (by decide) v l.length (valsB l) hs hown ⟨g, 0, none⟩ m c (valsB news) hx ?_ ?_ ?_ ?_ ?_ hbase ?_
  · rw [valsB_len]; omega
  · intro j u hu
    have e : (⟨g, 0, none⟩ : Addr).add j = ⟨g, j, none⟩ := by simp [Addr.add]; omega
    rw [e]
    have hj : j < news.length := by
      have := (List.getElem?_eq_some_iff.1 hu).1
      simpa [valsB] using this
    rw [hnews j hj]
    simp [valsB, hj] at hu
    rw [hu]
  · intro u hu
    simp [valsB] at hu
    obtain ⟨b, _, rfl⟩ := hu
    rfl
  · unfold maxLen; omega
  · omega
  · intro v' w' h1 h2 _
    refine h v' w' ?_ ?_
    · have e : valsB (l ++ news) = valsB l ++ valsB news := by simp [valsB]
      unfold OwnB
      rw [e, List.length_append, hm]
      exact h1
    · exact (Below.refl _ _).grown h2 hbase (fun k hk => (World.ownsRow.lt hown k hk).1)

/-- 'make([]byte, 0, n)' -/
theorem make_cap (n : Int) (h0 : 0 ≤ n) (h1 : n ≤ 281474976710656) (W : World) :
    (Instr.makeSlice 22 (.int .i64 0) (.int .i64 n)).run Try.prog W = .ok (.slice (some ⟨W.heap.size, 0, none⟩) 0 n.toNat) (W.alloc (.cells (madeCells #[.int .u8 0] n.toNat) 5)) := by
  obtain ⟨i0, hi, hz0, hz1, hz2⟩ := info_parts infoB
  have h := run_make (P := Try.prog) W 22 5 i0 (.int .u8 0) Try.underlying22 hi hz0 .i64 .i64 0 n (by decide) h0 (by rw [hz2]; omega) (by omega)
  rw [hz1, Nat.mul_one] at h
  exact h

/-- 'string(b)' of such a slice. -/
theorem conv_own (W : World) (base : Nat) (v : Value) (l : List UInt8) (h : OwnB W base v l) :
    (convert 22 9 v).run Try.prog W = .ok (.string ⟨l.toArray⟩) W := by
  have h0 := h
  obtain ⟨_, h⟩ := h
  rcases h with ⟨rfl, hn⟩ | ⟨g, cap, cur, rfl, _, hg, _, _, _, htake⟩
  · obtain rfl : l = [] := List.eq_nil_of_length_eq_zero hn
    rw [run_convert_bytes_string W 22 9 5 none 0 0 Try.underlying22 Try.underlying5 Try.underlying9]
    rfl
  · refine conv_row W g l cap (fun j hj => ?_)
    rw [World.ownsRow.cellAt h0 j (by omega)]
    simp [valsB, cellsB]
end Go.Proofs.Ytdaoaedkjoknmaa
