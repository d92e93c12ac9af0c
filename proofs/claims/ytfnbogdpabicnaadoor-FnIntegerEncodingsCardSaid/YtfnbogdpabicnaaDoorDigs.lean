/-
  The sixteen digits.
-/
import Derived.Test.YtfnbogdpabicnaaDoorBytes
namespace Go.Proofs.YtfnbogdpabicnaaDoor
open Go.RowKit Go.Deep Go.Proofs.YtfnbogdpabicnaaDoor.Num

def digs : ByteArray := ⟨#[48, 49, 50, 51, 52, 53, 54, 55, 56, 57, 97, 98, 99, 100, 101, 102]⟩

theorem digs_fin : ∀ k : Fin 16, digs.data[k.val]? = some (hexD k.val) := by decide

theorem digs_at (k : Nat) (h : k < digs.size) : digs[k] = hexD k := by
  have h16 : k < 16 := h
  have h1 := digs_fin ⟨k, h16⟩
  rw [Array.getElem?_eq_getElem (by exact h)] at h1
  exact Option.some.inj h1
end Go.Proofs.YtfnbogdpabicnaaDoor
