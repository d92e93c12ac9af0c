/-
  What the library's listed variables hold stays so while a call changes nothing that was there.
-/
import Derived.Test.YtfnbogdpabicnaaDoorIParse
namespace Go.Proofs.YtfnbogdpabicnaaDoor
open Go.RowKit Go.Deep Go.Proofs.YtfnbogdpabicnaaDoor.Num

theorem cell_keep {w w' : World} (hb : Below w.heap.size w w') {g : Nat} {u : Value} (h : w.cell? ⟨g, 0, none⟩ = some u) : w'.cell? ⟨g, 0, none⟩ = some u :=
  (hb.cell (p := ⟨g, 0, none⟩) (Lib.lt_of_cell h)).trans h
theorem Sent.keep {w w' : World} (h : Sent w) (hb : Below w.heap.size w w') : Sent w' := by
  obtain ⟨⟨t0, p0, h0⟩, ⟨t1, p1, h1⟩⟩ := h
  exact ⟨⟨t0, p0, cell_keep hb h0⟩, ⟨t1, p1, cell_keep hb h1⟩⟩
end Go.Proofs.YtfnbogdpabicnaaDoor
