/-
  A sender that came in, as a value.
-/
import Derived.Test.YtjohbfdifdjldaaRnRow
import Derived.Test.YtjohbfdifdjldaaSnV
namespace Go.Proofs.Ytjohbfdifdjldaa
open Go.RowKit Go.Deep Go.Proofs.Ytjohbfdifdjldaa.Num Go.ChangeShapes Go.WideShapes Go.Joins Go.ChangeAt

theorem listS2 {α : Type} {l : List α} (h : l.length = 2) : ∃ c0 c1, l = [c0, c1] := by
  match l, h with
  | [c0, c1], _ => exact ⟨c0, c1, rfl⟩
theorem listS9 {α : Type} {l : List α} (h : l.length = 9) : ∃ c0 c1 c2 c3 c4 c5 c6 c7 c8, l = [c0, c1, c2, c3, c4, c5, c6, c7, c8] := by
  match l, h with
  | [c0, c1, c2, c3, c4, c5, c6, c7, c8], _ => exact ⟨c0, c1, c2, c3, c4, c5, c6, c7, c8, rfl⟩
theorem arrayS12 {α : Type} {cs : Array α} (h : cs.size = 12) : ∃ c0 c1 c2 c3 c4 c5 c6 c7 c8 c9 c10 c11, cs = #[c0, c1, c2, c3, c4, c5, c6, c7, c8, c9, c10, c11] := by
  obtain ⟨l⟩ := cs
  match l, h with
  | [c0, c1, c2, c3, c4, c5, c6, c7, c8, c9, c10, c11], _ => exact ⟨c0, c1, c2, c3, c4, c5, c6, c7, c8, c9, c10, c11, rfl⟩
/-- A range's cells. -/
def rgL (c : Rg) : List Value := [.int .i64 c.1, .int .i64 c.2]
set_option maxRecDepth 100000 in
/-- Two cells that read as a range are one. -/
theorem rgS_cells {H : Type} {enc : TypeId × Value → H} {w : World} {base : Nat} {sp : Nat → Bool} {held : Bool} {fuel : Nat} {cs : List Value} {x : DataW H × List MemPlace} (hl : cs.length = 2)
    (hf : DataW.trod enc Try.prog w base sp held fuel 75 cs = some x) : ∃ c : Rg, cs = rgL c ∧ (-9223372036854775808 ≤ c.1 ∧ c.1 ≤ 9223372036854775807) ∧ -9223372036854775808 ≤ c.2 ∧ c.2 ≤ 9223372036854775807 := by
  obtain ⟨c0, c1, rfl⟩ := listS2 hl
  obtain ⟨xs, n, _, hx, hl2, hlen, hfld⟩ := DataW.trod_struct Try.underlying75 hf
  obtain ⟨y0, y1, rfl⟩ := listS2 hlen
  have k3 : Try.prog.cellsOf 3 = 1 := by kernel_rfl
  have h0 : DataW.trod enc Try.prog w base sp held n 3 [c0] = some y0 := by have := hfld 0 _ rfl; simpa [k3] using this
  have h1 : DataW.trod enc Try.prog w base sp held n 3 [c1] = some y1 := by have := hfld 1 _ rfl; simpa [k3] using this
  clear hfld hx hl2 hlen hf
  obtain ⟨m0, e0, _, w0⟩ := DataW.trod_int Try.underlying3 h0
  injection e0 with e0 _
  subst e0
  obtain ⟨m1, e1, _, w1⟩ := DataW.trod_int Try.underlying3 h1
  injection e1 with e1 _
  subst e1
  exact ⟨(m0, m1), rfl, wfN_int w0, wfN_int w1⟩
set_option maxRecDepth 100000 in
/-- One cell that reads as a slice of chunks. -/
theorem rgsS_of_cell {H : Type} {enc : TypeId × Value → H} {w : World} {base : Nat} {held : Bool} {fuel : Nat} {v : Value} {x : DataW H × List MemPlace}
    (hf : DataW.trod enc Try.prog w base (fun _ => true) held fuel 34 [v] = some x) :
    ∃ (a : Option Addr) (cap : Nat) (l : List Rg), v = .slice a l.length cap ∧ l.length ≤ maxLen ∧ Rgs w w.heap.size a l ∧ InR l := by
  rcases open_slice Try.underlying34 hf with ⟨hcs, _⟩ | ⟨x, len, cap, m, n, D, Pl, hcs, _, hl, hm, hmm, _, hcell⟩
  · simp at hcs
    exact ⟨none, 0, [], hcs, by decide, Rgs.nil, fun c hc => by cases hc⟩
  · simp at hcs
    subst hcs
    have hmc : m = cap := by simpa using hmm
    subst hmc
    have c2 : Try.prog.cellsOf 75 = 2 := by kernel_rfl
    have hall : ∀ i, i < len → ∃ c : Rg, (∀ k, k < 2 → w.cell? (x.add (i * 2 + k)) = (rgL c)[k]?) ∧ (-9223372036854775808 ≤ c.1 ∧ c.1 ≤ 9223372036854775807) ∧ -9223372036854775808 ≤ c.2 ∧ c.2 ≤ 9223372036854775807 := by
      intro i hi
      obtain ⟨cs', h1, h2⟩ := hcell i (by omega)
      rw [c2] at h1
      obtain ⟨_, hlen, hc⟩ := World.cells?_some h1
      obtain ⟨c, rfl, hs⟩ := rgS_cells hlen h2
      refine ⟨c, fun k hk => ?_, hs⟩
      have := hc k hk
      rw [add_add] at this
      exact this
    have hsome : ∀ k, k ≤ len → ∃ l : List Rg, l.length = k ∧ ∀ i (hi : i < l.length), (∀ k, k < 2 → w.cell? (x.add (i * 2 + k)) = (rgL l[i])[k]?) ∧ (-9223372036854775808 ≤ l[i].1 ∧ l[i].1 ≤ 9223372036854775807) ∧ -9223372036854775808 ≤ l[i].2 ∧ l[i].2 ≤ 9223372036854775807 := by
      intro k
      induction k with
      | zero => intro _; exact ⟨[], rfl, fun i hi => by cases hi⟩
      | succ k ih =>
        intro hk
        obtain ⟨l, rfl, hl⟩ := ih (by omega)
        obtain ⟨y, hy⟩ := hall l.length (by omega)
        refine ⟨l ++ [y], by simp, fun i hi => ?_⟩
        by_cases hil : i < l.length
        · rw [List.getElem_append_left hil]
          exact hl i hil
        · have e : i = l.length := by simp at hi; omega
          subst e
          simpa using hy
    obtain ⟨l, hlen, hl2⟩ := hsome len (Nat.le_refl _)
    subst hlen
    refine ⟨some x, m, l, rfl, Nat.le_trans hl hm, fun j hj => ?_, fun y hy => ?_⟩
    · obtain ⟨h0, _⟩ := hl2 j hj
      obtain ⟨b, off, spot⟩ := x
      have h00 : w.cell? ((⟨b, off, spot⟩ : Addr).add (0 * 2 + 0)) = some (.int .i64 (l[0]'(by omega)).1) := (hl2 0 (by omega)).1 0 (by omega)
      have hs : spot = none := by simpa [Addr.add] using World.cell?_spot h00
      subst hs
      have hk : ∀ i, i < 2 → w.cell? ⟨b, off + j * 2 + i, none⟩ = (rgL l[j])[i]? := fun i hi => by
        have := h0 i hi
        rw [addN_off, ← Nat.add_assoc] at this
        exact this
      refine ⟨b, off, rfl, ?_, hk 0 (by omega), hk 1 (by omega)⟩
      exact Nat.lt_of_not_le fun hle => by
        have h1 := hk 0 (by omega)
        have : w.cell? ⟨b, off + j * 2 + 0, none⟩ = none := by simp [World.cell?, Array.getElem?_eq_none hle]
        rw [this] at h1
        simp [rgL] at h1
    · obtain ⟨i, hi, rfl⟩ := List.getElem_of_mem hy
      exact (hl2 i hi).2
set_option maxRecDepth 100000 in
/-- Four cells that read as a ring are one. -/
theorem rn_cells {H : Type} {enc : TypeId × Value → H} {w : World} {base : Nat} {held : Bool} {fuel : Nat} {c0 c1 c2 c3 : Value} {x : DataW H × List MemPlace}
    (hf : DataW.trod enc Try.prog w base (fun _ => true) held fuel 33 [c0, c1, c2, c3] = some x) :
    ∃ (x : Rn) (a : Option Addr) (cap : Nat), c0 = .int .i64 x.size ∧ c1 = .int .i64 x.base ∧ c2 = .int .i64 x.en ∧ c3 = .slice a x.cs.length cap ∧ Ints w w.heap.size a x.cs ∧ x.cs.length ≤ maxLen ∧ inI x.cs ∧ inRn x := by
  obtain ⟨xs, n, _, hx, hl2, hlen, hfld⟩ := DataW.trod_struct Try.underlying33 hf
  obtain ⟨y0, y1, y2, y3, rfl⟩ := listN4 hlen
  have k3 : Try.prog.cellsOf 3 = 1 := by kernel_rfl
  have k9 : Try.prog.cellsOf 22 = 1 := by kernel_rfl
  have h0 : DataW.trod enc Try.prog w base (fun _ => true) held n 3 [c0] = some y0 := by have := hfld 0 _ rfl; simpa [k3, Value.cells] using this
  have h1 : DataW.trod enc Try.prog w base (fun _ => true) held n 3 [c1] = some y1 := by have := hfld 1 _ rfl; simpa [k3, Value.cells] using this
  have h2 : DataW.trod enc Try.prog w base (fun _ => true) held n 3 [c2] = some y2 := by have := hfld 2 _ rfl; simpa [k3, Value.cells] using this
  have h3 : DataW.trod enc Try.prog w base (fun _ => true) held n 22 [c3] = some y3 := by have := hfld 3 _ rfl; simpa [k3, k9, Value.cells] using this
  clear hfld hx hl2 hlen hf
  obtain ⟨m0, e0, _, w0⟩ := DataW.trod_int Try.underlying3 h0
  injection e0 with e0 _
  subst e0
  obtain ⟨m1, e1, _, w1⟩ := DataW.trod_int Try.underlying3 h1
  injection e1 with e1 _
  subst e1
  obtain ⟨m2, e2, _, w2⟩ := DataW.trod_int Try.underlying3 h2
  injection e2 with e2 _
  subst e2
  obtain ⟨a, cap, l, rfl, g1, g2, g3⟩ := ints_of_cell h3
  exact ⟨⟨m0, m1, m2, l⟩, a, cap, rfl, rfl, rfl, rfl, g2, g1, g3, wfN_int w0, wfN_int w1, wfN_int w2⟩
set_option maxRecDepth 100000 in
/-- A sender that came in. -/
theorem sn_of_trod {H : Type} {enc : TypeId × Value → H} {w : World} {base b0 : Nat} {held : Bool} {r : Reach} {v : Value} {d : DataW H} {p : List MemPlace}
    (hv : Value.okWide Try.prog w r b0 36 v) (h : DataW.Trod enc Try.prog w base (fun _ => true) held 36 v d p) :
    ∃ (s : Sn) (A1 A2 A3 A4 : Option Addr) (c1 c2 c3 c4 : Nat), v = snV s (.slice A1 s.rn.cs.length c1) (.slice A2 s.pe.length c2) (.slice A3 s.fl.length c3) (.slice A4 s.ac.length c4) ∧ ReadS w w.heap.size A1 A2 A3 A4 s ∧
      (s.rn.cs.length ≤ maxLen ∧ s.pe.length ≤ maxLen ∧ s.fl.length ≤ maxLen ∧ s.ac.length ≤ maxLen) ∧ (inI s.rn.cs ∧ InR s.pe ∧ InR s.fl ∧ InR s.ac) ∧ inSn s := by
  obtain ⟨cs, rfl, hsz⟩ := okWide_struct Try.underlying36 hv
  obtain ⟨c0, c1, c2, c3, c4, c5, c6, c7, c8, c9, c10, c11, rfl⟩ := arrayS12 (hsz.trans (by kernel_rfl))
  obtain ⟨fuel, hf⟩ := h
  obtain ⟨xs, n, _, hx, hl2, hlen, hfld⟩ := DataW.trod_struct Try.underlying36 hf
  obtain ⟨y0, y1, y2, y3, y4, y5, y6, y7, y8, rfl⟩ := listS9 hlen
  have k3 : Try.prog.cellsOf 3 = 1 := by kernel_rfl
  have k4 : Try.prog.cellsOf 33 = 4 := by kernel_rfl
  have k9 : Try.prog.cellsOf 34 = 1 := by kernel_rfl
  have h0 : DataW.trod enc Try.prog w base (fun _ => true) held n 3 [c0] = some y0 := by have := hfld 0 _ rfl; simpa [k3, Value.cells] using this
  have h1 : DataW.trod enc Try.prog w base (fun _ => true) held n 33 [c1, c2, c3, c4] = some y1 := by have := hfld 1 _ rfl; simpa [k4, Value.cells] using this
  have h2 : DataW.trod enc Try.prog w base (fun _ => true) held n 34 [c5] = some y2 := by have := hfld 2 _ rfl; simpa [k9, Value.cells] using this
  have h3 : DataW.trod enc Try.prog w base (fun _ => true) held n 34 [c6] = some y3 := by have := hfld 3 _ rfl; simpa [k9, Value.cells] using this
  have h4 : DataW.trod enc Try.prog w base (fun _ => true) held n 34 [c7] = some y4 := by have := hfld 4 _ rfl; simpa [k9, Value.cells] using this
  have h5 : DataW.trod enc Try.prog w base (fun _ => true) held n 3 [c8] = some y5 := by have := hfld 5 _ rfl; simpa [k3, Value.cells] using this
  have h6 : DataW.trod enc Try.prog w base (fun _ => true) held n 3 [c9] = some y6 := by have := hfld 6 _ rfl; simpa [k3, Value.cells] using this
  have h7 : DataW.trod enc Try.prog w base (fun _ => true) held n 3 [c10] = some y7 := by have := hfld 7 _ rfl; simpa [k3, Value.cells] using this
  have h8 : DataW.trod enc Try.prog w base (fun _ => true) held n 3 [c11] = some y8 := by have := hfld 8 _ rfl; simpa [k3, Value.cells] using this
  clear hfld hx hl2 hlen hf
  obtain ⟨m0, e0, _, w0⟩ := DataW.trod_int Try.underlying3 h0
  injection e0 with e0 _
  subst e0
  obtain ⟨m5, e5, _, w5⟩ := DataW.trod_int Try.underlying3 h5
  injection e5 with e5 _
  subst e5
  obtain ⟨m6, e6, _, w6⟩ := DataW.trod_int Try.underlying3 h6
  injection e6 with e6 _
  subst e6
  obtain ⟨m7, e7, _, w7⟩ := DataW.trod_int Try.underlying3 h7
  injection e7 with e7 _
  subst e7
  obtain ⟨m8, e8, _, w8⟩ := DataW.trod_int Try.underlying3 h8
  injection e8 with e8 _
  subst e8
  obtain ⟨r, A1, q1, rfl, rfl, rfl, rfl, r1, r2, r3, r4⟩ := rn_cells h1
  obtain ⟨A2, q2, l2, rfl, a1, a2, a3⟩ := rgsS_of_cell h2
  obtain ⟨A3, q3, l3, rfl, b1, b2, b3⟩ := rgsS_of_cell h3
  obtain ⟨A4, q4, l4, rfl, d1, d2, d3⟩ := rgsS_of_cell h4
  exact ⟨⟨m0, r, l2, l3, l4, m5, m6, m7, m8⟩, A1, A2, A3, A4, q1, q2, q3, q4, rfl, ⟨r1, a2, b2, d2⟩, ⟨r2, a1, b1, d1⟩, ⟨r3, a3, b3, d3⟩, wfN_int w0, r4, wfN_int w5, wfN_int w6, wfN_int w7, wfN_int w8⟩
end Go.Proofs.Ytjohbfdifdjldaa
