/-
  A ring that came in, as a value.
-/
import Derived.Test.YtjohbfdifdjldaaRnV
import Derived.Deep.Slices
import Derived.Lib.SmallJoins
import Derived.ProofKit
namespace Go.Proofs.Ytjohbfdifdjldaa
open Go.RowKit Go.Deep Go.Proofs.Ytjohbfdifdjldaa.Num Go.ChangeShapes Go.WideShapes Go.Joins Go.ChangeAt

theorem wfN_int {a : Int} (h : (Lit.int .i64 a).wf = true) : -9223372036854775808 ≤ a ∧ a ≤ 9223372036854775807 := by
  simp [Lit.wf, IntKind.min, IntKind.max, IntKind.signed, IntKind.bits] at h
  omega
theorem addN_off (b off k : Nat) : (⟨b, off, none⟩ : Addr).add k = ⟨b, off + k, none⟩ := by
  unfold Addr.add
  split <;> simp_all
theorem listN4 {α : Type} {l : List α} (h : l.length = 4) : ∃ c0 c1 c2 c3, l = [c0, c1, c2, c3] := by
  match l, h with
  | [c0, c1, c2, c3], _ => exact ⟨c0, c1, c2, c3, rfl⟩
theorem arrayN4 {α : Type} {cs : Array α} (h : cs.size = 4) : ∃ c0 c1 c2 c3, cs = #[c0, c1, c2, c3] := by
  obtain ⟨l⟩ := cs
  match l, h with
  | [c0, c1, c2, c3], _ => exact ⟨c0, c1, c2, c3, rfl⟩
set_option maxRecDepth 100000 in
/-- One cell that reads as a slice of ints. -/
theorem ints_of_cell {H : Type} {enc : TypeId × Value → H} {w : World} {base : Nat} {held : Bool} {fuel : Nat} {v : Value} {x : DataW H × List MemPlace}
    (hf : DataW.trod enc Try.prog w base (fun _ => true) held fuel 22 [v] = some x) :
    ∃ (a : Option Addr) (cap : Nat) (l : List Int), v = .slice a l.length cap ∧ l.length ≤ maxLen ∧ Ints w w.heap.size a l ∧ inI l := by
  rcases open_ints Try.underlying22 Try.underlying3 (by kernel_rfl) hf with ⟨hcs, _⟩ | ⟨x, len, cap, zs, hcs, _, hl, hm, hz, _, hc, hw⟩
  · simp at hcs
    exact ⟨none, 0, [], hcs, by decide, Ints.nil, fun c hc => by cases hc⟩
  · simp at hcs
    subst hcs
    have hz' : zs.length = cap := by simpa using hz
    have hlt : (zs.take len).length = len := by rw [List.length_take]; omega
    refine ⟨some x, cap, zs.take len, by rw [hlt], by rw [hlt]; exact Nat.le_trans hl hm, fun j hj => ?_, fun z hz2 => wfN_int (hw z (List.mem_of_mem_take hz2))⟩
    have hj2 : j < len := by omega
    obtain ⟨b, off, spot⟩ := x
    have hs : spot = none := by simpa [Addr.add] using World.cell?_spot (hc 0 (by omega))
    subst hs
    have h0 := hc j (by omega)
    have hj' : j < zs.length := by omega
    rw [addN_off, show zs.getD j 0 = zs[j] from by simp [List.getD, hj']] at h0
    exact ⟨b, off, rfl, block_lt_of_cell h0, by rw [h0, List.getElem_take]⟩
set_option maxRecDepth 100000 in
/-- A ring that came in. -/
theorem rn_of_trod {H : Type} {enc : TypeId × Value → H} {w : World} {base b0 : Nat} {held : Bool} {r : Reach} {v : Value} {d : DataW H} {p : List MemPlace}
    (hv : Value.okWide Try.prog w r b0 33 v) (h : DataW.Trod enc Try.prog w base (fun _ => true) held 33 v d p) :
    ∃ (x : Rn) (a : Option Addr) (cap : Nat), v = rnV x (.slice a x.cs.length cap) ∧ Ints w w.heap.size a x.cs ∧ x.cs.length ≤ maxLen ∧ inI x.cs ∧ inRn x := by
  obtain ⟨cs, rfl, hsz⟩ := okWide_struct Try.underlying33 hv
  obtain ⟨c0, c1, c2, c3, rfl⟩ := arrayN4 (hsz.trans (by kernel_rfl))
  obtain ⟨fuel, hf⟩ := h
  obtain ⟨xs, n, _, hx, hl2, hlen, hfld⟩ := DataW.trod_struct Try.underlying33 hf
  obtain ⟨y0, y1, y2, y3, rfl⟩ := listN4 hlen
  have k3 : Try.prog.cellsOf 3 = 1 := by kernel_rfl
  have k9 : Try.prog.cellsOf 22 = 1 := by kernel_rfl
  have h0 : DataW.trod enc Try.prog w base (fun _ => true) held n 3 [c0] = some y0 := by have := hfld 0 _ rfl; simpa [k3, Value.cells] using this
  have h1 : DataW.trod enc Try.prog w base (fun _ => true) held n 3 [c1] = some y1 := by have := hfld 1 _ rfl; simpa [k3, Value.cells] using this
  have h2 : DataW.trod enc Try.prog w base (fun _ => true) held n 3 [c2] = some y2 := by have := hfld 2 _ rfl; simpa [k3, Value.cells] using this
  have h3 : DataW.trod enc Try.prog w base (fun _ => true) held n 22 [c3] = some y3 := by have := hfld 3 _ rfl; simpa [k3, k9, Value.cells] using this
  clear hfld hx hl2 hlen hf
  obtain ⟨m0, e0, _, w0⟩ := DataW.trod_int Try.underlying3 h0
  injection e0 with e0 _
  subst e0
  obtain ⟨m1, e1, _, w1⟩ := DataW.trod_int Try.underlying3 h1
  injection e1 with e1 _
  subst e1
  obtain ⟨m2, e2, _, w2⟩ := DataW.trod_int Try.underlying3 h2
  injection e2 with e2 _
  subst e2
  obtain ⟨a, cap, l, rfl, g1, g2, g3⟩ := ints_of_cell h3
  exact ⟨⟨m0, m1, m2, l⟩, a, cap, rfl, g2, g1, g3, wfN_int w0, wfN_int w1, wfN_int w2⟩
end Go.Proofs.Ytjohbfdifdjldaa
