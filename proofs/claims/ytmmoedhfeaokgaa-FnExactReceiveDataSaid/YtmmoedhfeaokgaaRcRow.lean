/-
  A receiver that came in, as a value.
-/
import Derived.Test.YtmmoedhfeaokgaaBufRow
import Derived.Test.YtmmoedhfeaokgaaRcV
namespace Go.Proofs.Ytmmoedhfeaokgaa
open Go.RowKit Go.Deep Go.Proofs.Ytmmoedhfeaokgaa.Num Go.ChangeShapes Go.WideShapes Go.Joins

theorem listC5 {α : Type} {l : List α} (h : l.length = 5) : ∃ c0 c1 c2 c3 c4, l = [c0, c1, c2, c3, c4] := by
  match l, h with
  | [c0, c1, c2, c3, c4], _ => exact ⟨c0, c1, c2, c3, c4, rfl⟩
theorem arrayC6 {α : Type} {cs : Array α} (h : cs.size = 6) : ∃ c0 c1 c2 c3 c4 c5, cs = #[c0, c1, c2, c3, c4, c5] := by
  obtain ⟨l⟩ := cs
  match l, h with
  | [c0, c1, c2, c3, c4, c5], _ => exact ⟨c0, c1, c2, c3, c4, c5, rfl⟩
set_option maxRecDepth 100000 in
/-- Two cells that read as a buffer are one. -/
theorem buf_cells {H : Type} {enc : TypeId × Value → H} {w : World} {base : Nat} {held : Bool} {fuel : Nat} {c0 c1 : Value} {x : DataW H × List MemPlace}
    (hf : DataW.trod enc Try.prog w base (fun _ => true) held fuel 43 [c0, c1] = some x) :
    ∃ (b : Bf) (a : Option Addr) (cap : Nat), c0 = .int .i64 b.next ∧ c1 = .slice a b.chs.length cap ∧ b.chs.length ≤ maxLen ∧ Chs w w.heap.size a b.chs ∧ inB b.chs ∧ -9223372036854775808 ≤ b.next ∧ b.next ≤ 9223372036854775807 := by
  obtain ⟨xs, n, _, hx, hl2, hlen, hfld⟩ := DataW.trod_struct Try.underlying43 hf
  obtain ⟨y0, y1, rfl⟩ := listC2 hlen
  have k3 : Try.prog.cellsOf 3 = 1 := by kernel_rfl
  have k9 : Try.prog.cellsOf 41 = 1 := by kernel_rfl
  have h0 : DataW.trod enc Try.prog w base (fun _ => true) held n 3 [c0] = some y0 := by have := hfld 0 _ rfl; simpa [k3, Value.cells] using this
  have h1 : DataW.trod enc Try.prog w base (fun _ => true) held n 41 [c1] = some y1 := by have := hfld 1 _ rfl; simpa [k9, Value.cells] using this
  clear hfld hx hl2 hlen hf
  obtain ⟨m0, e0, _, w0⟩ := DataW.trod_int Try.underlying3 h0
  injection e0 with e0 _
  subst e0
  obtain ⟨a, cap, l, rfl, g1, g2, g3⟩ := chs_of_cell h1
  exact ⟨⟨m0, l⟩, a, cap, rfl, rfl, g1, g2, g3, wfC_int w0⟩
set_option maxRecDepth 100000 in
/-- A receiver that came in. -/
theorem rc_of_trod {H : Type} {enc : TypeId × Value → H} {w : World} {base b0 : Nat} {held : Bool} {r : Reach} {v : Value} {d : DataW H} {p : List MemPlace}
    (hv : Value.okWide Try.prog w r b0 45 v) (h : DataW.Trod enc Try.prog w base (fun _ => true) held 45 v d p) :
    ∃ (x : Rc) (a : Option Addr) (cap : Nat), v = rcV x (.slice a x.buf.chs.length cap) ∧ x.buf.chs.length ≤ maxLen ∧ Chs w w.heap.size a x.buf.chs ∧ inB x.buf.chs ∧ inRc x := by
  obtain ⟨cs, rfl, hsz⟩ := okWide_struct Try.underlying45 hv
  obtain ⟨c0, c1, c2, c3, c4, c5, rfl⟩ := arrayC6 (hsz.trans (by kernel_rfl))
  obtain ⟨fuel, hf⟩ := h
  obtain ⟨xs, n, _, hx, hl2, hlen, hfld⟩ := DataW.trod_struct Try.underlying45 hf
  obtain ⟨y0, y1, y2, y3, y4, rfl⟩ := listC5 hlen
  have k3 : Try.prog.cellsOf 3 = 1 := by kernel_rfl
  have k9 : Try.prog.cellsOf 43 = 2 := by kernel_rfl
  have h0 : DataW.trod enc Try.prog w base (fun _ => true) held n 3 [c0] = some y0 := by have := hfld 0 _ rfl; simpa [k3, Value.cells] using this
  have h1 : DataW.trod enc Try.prog w base (fun _ => true) held n 43 [c1, c2] = some y1 := by have := hfld 1 _ rfl; simpa [k9, Value.cells] using this
  have h2 : DataW.trod enc Try.prog w base (fun _ => true) held n 3 [c3] = some y2 := by have := hfld 2 _ rfl; simpa [k3, Value.cells] using this
  have h3 : DataW.trod enc Try.prog w base (fun _ => true) held n 3 [c4] = some y3 := by have := hfld 3 _ rfl; simpa [k3, Value.cells] using this
  have h4 : DataW.trod enc Try.prog w base (fun _ => true) held n 3 [c5] = some y4 := by have := hfld 4 _ rfl; simpa [k3, Value.cells] using this
  clear hfld hx hl2 hlen hf
  obtain ⟨m0, e0, _, w0⟩ := DataW.trod_int Try.underlying3 h0
  injection e0 with e0 _
  subst e0
  obtain ⟨m2, e2, _, w2⟩ := DataW.trod_int Try.underlying3 h2
  injection e2 with e2 _
  subst e2
  obtain ⟨m3, e3, _, w3⟩ := DataW.trod_int Try.underlying3 h3
  injection e3 with e3 _
  subst e3
  obtain ⟨m4, e4, _, w4⟩ := DataW.trod_int Try.underlying3 h4
  injection e4 with e4 _
  subst e4
  obtain ⟨b, a, cap, rfl, rfl, g1, g2, g3, g4⟩ := buf_cells h1
  exact ⟨⟨m0, b, m2, m3, m4⟩, a, cap, rfl, g1, g2, g3, wfC_int w0, g4, wfC_int w2, wfC_int w3, wfC_int w4⟩
end Go.Proofs.Ytmmoedhfeaokgaa
