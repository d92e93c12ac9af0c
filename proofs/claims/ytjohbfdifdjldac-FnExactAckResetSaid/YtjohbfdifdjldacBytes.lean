/-
  A slice of bytes of the call's own: what an append to it leaves, and the string that it becomes.
-/
import Derived.Test.YtjohbfdifdjldacKit
import Derived.Laws.OwnMore
import Derived.OwnWalk
namespace Go.Proofs.Ytjohbfdifdjldac
open Go.RowKit Go.Deep Go.Proofs.Ytjohbfdifdjldac.Num

def valsB (l : List UInt8) : List Value := l.map fun b => Value.int .u8 (b.toNat : Int)
theorem valsB_len (l : List UInt8) : (valsB l).length = l.length := by simp [valsB]
/-- The slice v is the call's own from block 'base' on and holds the bytes l. -/
def OwnB (w : World) (base : Nat) (v : Value) (l : List UInt8) : Prop := w.ownsRow base 5 1 v l.length (valsB l)
theorem OwnB.alloc {w : World} {base : Nat} {v : Value} {l : List UInt8} (h : OwnB w base v l) (o : Obj) : OwnB (w.alloc o) base v l := World.ownsRow.alloc h o
theorem OwnB.drew {w : World} {base : Nat} {v : Value} {l : List UInt8} (h : OwnB w base v l) : OwnB w.drew base v l := h
theorem OwnB.lit (w : World) (base cap : Nat) (cur : Array Value) (hb : base ≤ w.heap.size) (hc : cap ≤ maxLen) (hs : cur.size = cap) :
    OwnB (w.alloc (.cells cur 5)) base (.slice (some ⟨w.heap.size, 0, none⟩) 0 cap) [] :=
  World.ownsRow_made w cur cap hb hc (by omega)
theorem OwnB.empty {w : World} {base : Nat} : OwnB w base (.slice none 0 0) [] := World.ownsRow_nil w base _ 1

theorem cell_new (W : World) (l : List UInt8) : ∀ j (hj : j < l.length), (W.alloc (.cells (cellsB l) 5)).cell? ⟨W.heap.size, j, none⟩ = some (.int .u8 (l[j].toNat : Int)) := by
  intro j hj
  rw [World.cell?_alloc_at _ _ _ _ rfl, cellsB_at l j hj]

end Go.Proofs.Ytjohbfdifdjldac
