/-
  A frame that came in, as a value.
-/
import Derived.Test.YtjbppociogoopaaDoorFrV
import Derived.Deep.Slices
import Derived.Lib.SmallJoins
import Derived.ProofKit
namespace Go.Proofs.YtjbppociogoopaaDoor
open Go.RowKit Go.Deep Go.Proofs.YtjbppociogoopaaDoor.Num Go.ChangeShapes Go.WideShapes Go.Joins

theorem array9 {α : Type} {cs : Array α} (h : cs.size = 9) : ∃ c0 c1 c2 c3 c4 c5 c6 c7 c8, cs = #[c0, c1, c2, c3, c4, c5, c6, c7, c8] := by
  obtain ⟨l⟩ := cs
  match l, h with
  | [c0, c1, c2, c3, c4, c5, c6, c7, c8], _ => exact ⟨c0, c1, c2, c3, c4, c5, c6, c7, c8, rfl⟩
theorem list9 {α : Type} {l : List α} (h : l.length = 9) : ∃ c0 c1 c2 c3 c4 c5 c6 c7 c8, l = [c0, c1, c2, c3, c4, c5, c6, c7, c8] := by
  match l, h with
  | [c0, c1, c2, c3, c4, c5, c6, c7, c8], _ => exact ⟨c0, c1, c2, c3, c4, c5, c6, c7, c8, rfl⟩
set_option maxRecDepth 100000 in
/-- Nine cells that read as a frame are one. -/
theorem fr_cells {H : Type} {enc : TypeId × Value → H} {w : World} {base : Nat} {sp : Nat → Bool} {held : Bool} {fuel : Nat} {cs : List Value} {x : DataW H × List MemPlace} (hl : cs.length = 9)
    (hf : DataW.trod enc Tryd.prog w base sp held fuel 43 cs = some x) : ∃ f : Fr, cs = frL f ∧ f.data.size ≤ maxLen := by
  obtain ⟨c0, c1, c2, c3, c4, c5, c6, c7, c8, rfl⟩ := list9 hl
  obtain ⟨xs, n, _, hx, hl9, hlen, hfld⟩ := DataW.trod_struct Tryd.underlying43 hf
  obtain ⟨y0, y1, y2, y3, y4, y5, y6, y7, y8, rfl⟩ := list9 hlen
  have k3 : Tryd.prog.cellsOf 3 = 1 := by kernel_rfl
  have k4 : Tryd.prog.cellsOf 4 = 1 := by kernel_rfl
  have k9 : Tryd.prog.cellsOf 9 = 1 := by kernel_rfl
  have h0 : DataW.trod enc Tryd.prog w base sp held n 3 [c0] = some y0 := by have := hfld 0 _ rfl; simpa [k3] using this
  have h1 : DataW.trod enc Tryd.prog w base sp held n 3 [c1] = some y1 := by have := hfld 1 _ rfl; simpa [k3] using this
  have h2 : DataW.trod enc Tryd.prog w base sp held n 3 [c2] = some y2 := by have := hfld 2 _ rfl; simpa [k3] using this
  have h3 : DataW.trod enc Tryd.prog w base sp held n 9 [c3] = some y3 := by have := hfld 3 _ rfl; simpa [k9] using this
  have h4 : DataW.trod enc Tryd.prog w base sp held n 4 [c4] = some y4 := by have := hfld 4 _ rfl; simpa [k4] using this
  have h5 : DataW.trod enc Tryd.prog w base sp held n 3 [c5] = some y5 := by have := hfld 5 _ rfl; simpa [k3] using this
  have h6 : DataW.trod enc Tryd.prog w base sp held n 3 [c6] = some y6 := by have := hfld 6 _ rfl; simpa [k3] using this
  have h7 : DataW.trod enc Tryd.prog w base sp held n 3 [c7] = some y7 := by have := hfld 7 _ rfl; simpa [k3] using this
  have h8 : DataW.trod enc Tryd.prog w base sp held n 4 [c8] = some y8 := by have := hfld 8 _ rfl; simpa [k4] using this
  clear hfld hx hl9 hlen hf
  obtain ⟨m0, e0, _, _⟩ := DataW.trod_int Tryd.underlying3 h0
  injection e0 with e0 _
  subst e0
  obtain ⟨m1, e1, _, _⟩ := DataW.trod_int Tryd.underlying3 h1
  injection e1 with e1 _
  subst e1
  obtain ⟨m2, e2, _, _⟩ := DataW.trod_int Tryd.underlying3 h2
  injection e2 with e2 _
  subst e2
  obtain ⟨m3, e3, _, hsz⟩ := DataW.trod_string Tryd.underlying9 h3
  injection e3 with e3 _
  subst e3
  obtain ⟨m4, e4, _⟩ := DataW.trod_bool Tryd.underlying4 h4
  injection e4 with e4 _
  subst e4
  obtain ⟨m5, e5, _, _⟩ := DataW.trod_int Tryd.underlying3 h5
  injection e5 with e5 _
  subst e5
  obtain ⟨m6, e6, _, _⟩ := DataW.trod_int Tryd.underlying3 h6
  injection e6 with e6 _
  subst e6
  obtain ⟨m7, e7, _, _⟩ := DataW.trod_int Tryd.underlying3 h7
  injection e7 with e7 _
  subst e7
  obtain ⟨m8, e8, _⟩ := DataW.trod_bool Tryd.underlying4 h8
  injection e8 with e8 _
  subst e8
  exact ⟨⟨m0, m1, m2, m3, m4, m5, m6, m7, m8⟩, rfl, hsz⟩
set_option maxRecDepth 100000 in
theorem fr_of_trod {H : Type} {enc : TypeId × Value → H} {w : World} {base b0 : Nat} {held : Bool} {r : Reach} {v : Value} {d : DataW H} {p : List MemPlace}
    (hv : Value.okWide Tryd.prog w r b0 43 v) (h : DataW.Trod enc Tryd.prog w base (fun _ => true) held 43 v d p) :
    ∃ f : Fr, v = frV f ∧ f.data.size ≤ maxLen := by
  obtain ⟨cs, rfl, hsz⟩ := okWide_struct Tryd.underlying43 hv
  obtain ⟨c0, c1, c2, c3, c4, c5, c6, c7, c8, rfl⟩ := array9 (hsz.trans (by kernel_rfl))
  obtain ⟨fuel, hf⟩ := h
  obtain ⟨f, hcs, hs⟩ := fr_cells (by rfl) hf
  refine ⟨f, ?_, hs⟩
  have e : [c0, c1, c2, c3, c4, c5, c6, c7, c8] = frL f := hcs
  injection e with e0 e
  injection e with e1 e
  injection e with e2 e
  injection e with e3 e
  injection e with e4 e
  injection e with e5 e
  injection e with e6 e
  injection e with e7 e
  injection e with e8 e
  subst e0 e1 e2 e3 e4 e5 e6 e7 e8
  rfl
end Go.Proofs.YtjbppociogoopaaDoor
