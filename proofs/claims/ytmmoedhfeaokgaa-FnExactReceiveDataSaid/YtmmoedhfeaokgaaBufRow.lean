/-
  A buffer that came in, as a value.
-/
import Derived.Test.YtmmoedhfeaokgaaChs
import Derived.Deep.Slices
import Derived.Lib.SmallJoins
import Derived.ProofKit
namespace Go.Proofs.Ytmmoedhfeaokgaa
open Go.RowKit Go.Deep Go.Proofs.Ytmmoedhfeaokgaa.Num Go.ChangeShapes Go.WideShapes Go.Joins

theorem wfC_int {a : Int} (h : (Lit.int .i64 a).wf = true) : -9223372036854775808 ≤ a ∧ a ≤ 9223372036854775807 := by
  simp [Lit.wf, IntKind.min, IntKind.max, IntKind.signed, IntKind.bits] at h
  omega
theorem addC_off (b off k : Nat) : (⟨b, off, none⟩ : Addr).add k = ⟨b, off + k, none⟩ := by
  unfold Addr.add
  split <;> simp_all
theorem listC2 {α : Type} {l : List α} (h : l.length = 2) : ∃ c0 c1, l = [c0, c1] := by
  match l, h with
  | [c0, c1], _ => exact ⟨c0, c1, rfl⟩
theorem arrayC2 {α : Type} {cs : Array α} (h : cs.size = 2) : ∃ c0 c1, cs = #[c0, c1] := by
  obtain ⟨l⟩ := cs
  match l, h with
  | [c0, c1], _ => exact ⟨c0, c1, rfl⟩
set_option maxRecDepth 100000 in
/-- Two cells that read as a chunk are one. -/
theorem ch_cells {H : Type} {enc : TypeId × Value → H} {w : World} {base : Nat} {sp : Nat → Bool} {held : Bool} {fuel : Nat} {cs : List Value} {x : DataW H × List MemPlace} (hl : cs.length = 2)
    (hf : DataW.trod enc Try.prog w base sp held fuel 114 cs = some x) : ∃ c : Ch, cs = chL c ∧ c.data.size ≤ maxLen ∧ -9223372036854775808 ≤ c.off ∧ c.off ≤ 9223372036854775807 := by
  obtain ⟨c0, c1, rfl⟩ := listC2 hl
  obtain ⟨xs, n, _, hx, hl2, hlen, hfld⟩ := DataW.trod_struct Try.underlying114 hf
  obtain ⟨y0, y1, rfl⟩ := listC2 hlen
  have k3 : Try.prog.cellsOf 3 = 1 := by kernel_rfl
  have k9 : Try.prog.cellsOf 9 = 1 := by kernel_rfl
  have h0 : DataW.trod enc Try.prog w base sp held n 3 [c0] = some y0 := by have := hfld 0 _ rfl; simpa [k3] using this
  have h1 : DataW.trod enc Try.prog w base sp held n 9 [c1] = some y1 := by have := hfld 1 _ rfl; simpa [k9] using this
  clear hfld hx hl2 hlen hf
  obtain ⟨m0, e0, _, w0⟩ := DataW.trod_int Try.underlying3 h0
  injection e0 with e0 _
  subst e0
  obtain ⟨m1, e1, _, hsz⟩ := DataW.trod_string Try.underlying9 h1
  injection e1 with e1 _
  subst e1
  exact ⟨⟨m0, m1⟩, rfl, hsz, wfC_int w0⟩
set_option maxRecDepth 100000 in
/-- One cell that reads as a slice of chunks. -/
theorem chs_of_cell {H : Type} {enc : TypeId × Value → H} {w : World} {base : Nat} {held : Bool} {fuel : Nat} {v : Value} {x : DataW H × List MemPlace}
    (hf : DataW.trod enc Try.prog w base (fun _ => true) held fuel 41 [v] = some x) :
    ∃ (a : Option Addr) (cap : Nat) (l : List Ch), v = .slice a l.length cap ∧ l.length ≤ maxLen ∧ Chs w w.heap.size a l ∧ inB l := by
  rcases open_slice Try.underlying41 hf with ⟨hcs, _⟩ | ⟨x, len, cap, m, n, D, Pl, hcs, _, hl, hm, hmm, _, hcell⟩
  · simp at hcs
    exact ⟨none, 0, [], hcs, by decide, Chs.nil, fun c hc => by cases hc⟩
  · simp at hcs
    subst hcs
    have hmc : m = cap := by simpa using hmm
    subst hmc
    have c2 : Try.prog.cellsOf 114 = 2 := by kernel_rfl
    have hall : ∀ i, i < len → ∃ c : Ch, (∀ k, k < 2 → w.cell? (x.add (i * 2 + k)) = (chL c)[k]?) ∧ c.data.size ≤ maxLen ∧ -9223372036854775808 ≤ c.off ∧ c.off ≤ 9223372036854775807 := by
      intro i hi
      obtain ⟨cs', h1, h2⟩ := hcell i (by omega)
      rw [c2] at h1
      obtain ⟨_, hlen, hc⟩ := World.cells?_some h1
      obtain ⟨c, rfl, hs⟩ := ch_cells hlen h2
      refine ⟨c, fun k hk => ?_, hs⟩
      have := hc k hk
      rw [add_add] at this
      exact this
    have hsome : ∀ k, k ≤ len → ∃ l : List Ch, l.length = k ∧ ∀ i (hi : i < l.length), (∀ k, k < 2 → w.cell? (x.add (i * 2 + k)) = (chL l[i])[k]?) ∧ l[i].data.size ≤ maxLen ∧ -9223372036854775808 ≤ l[i].off ∧ l[i].off ≤ 9223372036854775807 := by
      intro k
      induction k with
      | zero => intro _; exact ⟨[], rfl, fun i hi => by cases hi⟩
      | succ k ih =>
        intro hk
        obtain ⟨l, rfl, hl⟩ := ih (by omega)
        obtain ⟨y, hy⟩ := hall l.length (by omega)
        refine ⟨l ++ [y], by simp, fun i hi => ?_⟩
        by_cases hil : i < l.length
        · rw [List.getElem_append_left hil]
          exact hl i hil
        · have e : i = l.length := by simp at hi; omega
          subst e
          simpa using hy
    obtain ⟨l, hlen, hl2⟩ := hsome len (Nat.le_refl _)
    subst hlen
    refine ⟨some x, m, l, rfl, Nat.le_trans hl hm, fun j hj => ?_, fun y hy => ?_⟩
    · obtain ⟨h0, _⟩ := hl2 j hj
      obtain ⟨b, off, spot⟩ := x
      have h00 : w.cell? ((⟨b, off, spot⟩ : Addr).add (0 * 2 + 0)) = some (.int .i64 (l[0]'(by omega)).off) := (hl2 0 (by omega)).1 0 (by omega)
      have hs : spot = none := by simpa [Addr.add] using World.cell?_spot h00
      subst hs
      have hk : ∀ i, i < 2 → w.cell? ⟨b, off + j * 2 + i, none⟩ = (chL l[j])[i]? := fun i hi => by
        have := h0 i hi
        rw [addC_off, ← Nat.add_assoc] at this
        exact this
      refine ⟨b, off, rfl, ?_, hk⟩
      exact Nat.lt_of_not_le fun hle => by
        have h1 := hk 0 (by omega)
        have : w.cell? ⟨b, off + j * 2 + 0, none⟩ = none := by simp [World.cell?, Array.getElem?_eq_none hle]
        rw [this] at h1
        simp [chL] at h1
    · obtain ⟨i, hi, rfl⟩ := List.getElem_of_mem hy
      exact (hl2 i hi).2
set_option maxRecDepth 100000 in
/-- A buffer that came in. -/
theorem buf_of_trod {H : Type} {enc : TypeId × Value → H} {w : World} {base b0 : Nat} {held : Bool} {r : Reach} {v : Value} {d : DataW H} {p : List MemPlace}
    (hv : Value.okWide Try.prog w r b0 43 v) (h : DataW.Trod enc Try.prog w base (fun _ => true) held 43 v d p) :
    ∃ (b : Bf) (a : Option Addr) (cap : Nat), v = bfV b.next (.slice a b.chs.length cap) ∧ b.chs.length ≤ maxLen ∧ Chs w w.heap.size a b.chs ∧ inB b.chs ∧ -9223372036854775808 ≤ b.next ∧ b.next ≤ 9223372036854775807 := by
  obtain ⟨cs, rfl, hsz⟩ := okWide_struct Try.underlying43 hv
  obtain ⟨c0, c1, rfl⟩ := arrayC2 (hsz.trans (by kernel_rfl))
  obtain ⟨fuel, hf⟩ := h
  obtain ⟨xs, n, _, hx, hl2, hlen, hfld⟩ := DataW.trod_struct Try.underlying43 hf
  obtain ⟨y0, y1, rfl⟩ := listC2 hlen
  have k3 : Try.prog.cellsOf 3 = 1 := by kernel_rfl
  have k9 : Try.prog.cellsOf 41 = 1 := by kernel_rfl
  have h0 : DataW.trod enc Try.prog w base (fun _ => true) held n 3 [c0] = some y0 := by have := hfld 0 _ rfl; simpa [k3, Value.cells] using this
  have h1 : DataW.trod enc Try.prog w base (fun _ => true) held n 41 [c1] = some y1 := by have := hfld 1 _ rfl; simpa [k9, Value.cells] using this
  clear hfld hx hl2 hlen hf
  obtain ⟨m0, e0, _, w0⟩ := DataW.trod_int Try.underlying3 h0
  injection e0 with e0 _
  subst e0
  obtain ⟨a, cap, l, rfl, g1, g2, g3⟩ := chs_of_cell h1
  exact ⟨⟨m0, l⟩, a, cap, rfl, g1, g2, g3, wfC_int w0⟩
end Go.Proofs.Ytmmoedhfeaokgaa
