/-
  A strings.Builder of the call's own: what its methods leave as it was, WriteByte and Len.
-/
import Derived.Test.YtjbppociogoopaaDoorBuild
namespace Go.Proofs.YtjbppociogoopaaDoor
open Go.RowKit Go.Deep Go.Proofs.YtjbppociogoopaaDoor.Num

/-- Every block that is there but b, and that is no row of bytes, is as it was. -/
def Spares (b : Nat) (w w' : World) : Prop := ∀ k, k < w.heap.size → k ≠ b → (∀ cs fz, w.heap[k]? ≠ some (.cells cs 5 fz)) → w'.heap[k]? = w.heap[k]?
theorem Spares.refl (b : Nat) (w : World) : Spares b w w := fun _ _ _ _ => rfl
theorem Spares.trans {b : Nat} {w w1 w2 : World} (h : Spares b w w1) (hs : w.heap.size ≤ w1.heap.size) (h2 : Spares b w1 w2) : Spares b w w2 := fun k hk hb hn => by
  have e := h k hk hb hn
  exact (h2 k (Nat.lt_of_lt_of_le hk hs) hb (fun cs fz => by rw [e]; exact hn cs fz)).trans e
theorem Spares.set {b : Nat} {w w1 : World} (h : Spares b w w1) (j : Nat) (v : Value) : Spares b w (w1.setCell ⟨b, j, none⟩ v) := fun k hk hb hn =>
  (Below.heap_setCell _ ⟨b, j, none⟩ v k hb).trans (h k hk hb hn)
theorem Spares.alloc {b : Nat} {w w1 : World} (h : Spares b w w1) (hs : w.heap.size ≤ w1.heap.size) (o : Obj) : Spares b w (w1.alloc o) := fun k hk hb hn =>
  (Below.heap_alloc _ o k (Nat.lt_of_lt_of_le hk hs)).trans (h k hk hb hn)
theorem Spares.grown {b : Nat} {w w1 w2 : World} {base n : Nat} {v : Value} {xs : List Value} (h : Spares b w w1) (hs : w.heap.size ≤ w1.heap.size) (ho : w1.ownsRow base 5 1 v n xs) (hg : w1.grownBy w2 v.ownBlock) : Spares b w w2 := fun k hk hb hn => by
  refine (hg.block k (Nat.lt_of_lt_of_le hk hs) (fun e => ?_)).trans (h k hk hb hn)
  rcases ho.2 with ⟨rfl, _⟩ | ⟨g, cap, cur, rfl, _, hgk, _⟩
  · cases e
  · have e2 : k = g := Option.some.inj e
    subst e2
    rw [h k hk hb hn] at hgk
    exact hn _ _ hgk

/-- A byte, alone in a row. -/
theorem byte_cells (c : UInt8) : [Value.int .u8 (c.toNat : Int)] = Lib.byteCells [c] := rfl
theorem checkK (B b : Nat) (bs : List Value) (w : World) (h : Lib.IsBuilder 60 5 B b bs w) :
    Calls Tryd.prog 70 #[.pointer (some ⟨b, 0, none⟩)] w fun e w' => e = .returned (.tuple #[]) ∧ Lib.BuilderAt 60 5 B b (.pointer (some ⟨b, 0, none⟩)) bs w' ∧ Below B w w' ∧ Spares b w w' := by
  rcases h with h | h
  · refine (check_fresh b w h.cell0 h.shape h.frozen0).mono ?_
    rintro e w' ⟨rfl, rfl⟩
    exact ⟨rfl, h.used _, (Below.refl B w).setCell (p := ⟨b, 0, none⟩) h.1 _, (Spares.refl b w).set 0 _⟩
  · refine (check_used b w h.cell0).mono ?_
    rintro e w' ⟨rfl, rfl⟩
    exact ⟨rfl, h, Below.refl B _, Spares.refl b _⟩

set_option maxRecDepth 100000 in
set_option maxHeartbeats 800000 in
/-- WriteString -/
theorem bwriteK (B b : Nat) (l r : List UInt8) (w : World) (h : Builds w B b l) (hlen : l.length + r.length ≤ 140737488355328) (hBw : B ≤ w.heap.size) :
    Calls Tryd.prog 46 #[.pointer (some ⟨b, 0, none⟩), .string ⟨r.toArray⟩] w fun e w' => (∃ v, e = .returned v) ∧ Builds w' B b (l ++ r) ∧ Below B w w' ∧ Spares b w w' := by
  obtain ⟨i0, hi, hz0, hz1, hz2⟩ := info_parts infoB
  have HC := Lib.hid (checkK B b _ w h)
  clear h
  go_enter Tryd.func46, Tryd.ntmps46
  go_wp2_with fail
  refine HC.out.mono ?_
  rintro e w1 ⟨rfl, h1, hb1, hk1⟩
  obtain ⟨hB, v, hbk, hown, hne⟩ := h1
  have c1 : w1.cell? ⟨b, 1, none⟩ = some v := by rw [Lib.cell_of_heap hbk]; rfl
  have hsz : (⟨r.toArray⟩ : ByteArray).size = r.length := by simp [ByteArray.size]
  go_wp2_with (at_builtin; refine Lib.wpList_append_own_string _ rfl _ _ 22 9 rfl B 5 i0 Tryd.underlying22 Tryd.underlying9 hi hz0 hz1 hz2 _ _ _ rfl hown ⟨r.toArray⟩ rfl ?c3 ?c4 ?c5 ?_)
  case c3 => rw [Lib.byteCells_length, hsz]; unfold maxLen; omega
  case c4 => rw [Lib.byteCells_length, hsz]; omega
  case c5 => exact Nat.le_trans hBw hb1.size
  intro v' w2 hown' hgrow _
  have hlt : b < w1.heap.size := (Array.getElem?_eq_some_iff.1 hbk).1
  have hb2 : w2.heap[b]? = some (.cells #[.pointer (some ⟨b, 0, none⟩), v] 60 (0, 0)) := by
    rw [hgrow.block b hlt (fun e => hne e.symm)]
    exact hbk
  have d1 : w2.cell? ⟨b, 1, none⟩ = some v := by rw [Lib.cell_of_heap hb2]; rfl
  have f1 : w2.frozen? ⟨b, 1, none⟩ = false := Lib.frozen_of_heap hb2 1
  have HO := Lib.hid hown'
  have HG := Lib.hid (hb1.grown hgrow (Nat.le_trans hBw hb1.size) (fun k hk => (hown.lt k hk).1))
  have HK := Lib.hid (hk1.grown hb1.size hown hgrow)
  obtain ⟨ao, n', cap, rfl⟩ : ∃ ao n' cap, v' = .slice ao n' cap := by
    rcases hown'.2 with ⟨hv, _⟩ | ⟨g, cap, cur, hv, _⟩
    · exact ⟨_, _, _, hv⟩
    · exact ⟨_, _, _, hv⟩
  clear hown' hgrow hb1 hbk hown hlt hne hk1
  go_wp2
  go_ret2
  refine ⟨⟨_, rfl⟩, .inr ?_, HG.out.setCell (p := ⟨b, 1, none⟩) hB _, HK.out.set 1 _⟩
  have ho := HO.out
  rw [show Lib.strCells ⟨r.toArray⟩ = Lib.byteCells r from rfl, ← Lib.byteCells_append, Lib.byteCells_length] at ho
  exact Lib.BuilderAt.put (T := 60) (e := 5) hB hb2 (bs' := Lib.byteCells (l ++ r)) (by simpa [Lib.byteCells_length] using ho) (by decide)

set_option maxRecDepth 100000 in
set_option maxHeartbeats 800000 in
/-- WriteByte -/
theorem bbyteK (B b : Nat) (l : List UInt8) (c : UInt8) (w : World) (h : Builds w B b l) (hlen : l.length + 1 ≤ 140737488355328) (hBw : B ≤ w.heap.size) :
    Calls Tryd.prog 43 #[.pointer (some ⟨b, 0, none⟩), .int .u8 (c.toNat : Int)] w fun e w' => (∃ v, e = .returned v) ∧ Builds w' B b (l ++ [c]) ∧ Below B w w' ∧ Spares b w w' := by
  obtain ⟨i0, hi, hz0, hz1, hz2⟩ := info_parts infoB
  have HC := Lib.hid (checkK B b _ w h)
  clear h
  go_enter Tryd.func43, Tryd.ntmps43
  go_wp2_with fail
  refine HC.out.mono ?_
  rintro e w1 ⟨rfl, h1, hb1, hk1⟩
  obtain ⟨hB, v, hbk, hown, hne⟩ := h1
  have c1 : w1.cell? ⟨b, 1, none⟩ = some v := by rw [Lib.cell_of_heap hbk]; rfl
  have hlt : b < w1.heap.size := (Array.getElem?_eq_some_iff.1 hbk).1
  have HOw := Lib.hid (World.ownsRow.alloc hown (.cells #[.int .u8 (c.toNat : Int)] 5))
  have HBw := Lib.hid (hb1.alloc (Nat.le_trans hBw hb1.size) (.cells #[.int .u8 (c.toNat : Int)] 5))
  have HKw := Lib.hid (hk1.alloc hb1.size (.cells #[.int .u8 (c.toNat : Int)] 5))
  have hbk2 : (w1.alloc (.cells #[.int .u8 (c.toNat : Int)] 5)).heap[b]? = some (.cells #[.pointer (some ⟨b, 0, none⟩), v] 60 (0, 0)) := (Below.heap_alloc _ _ _ hlt).trans hbk
  have hnew : (w1.alloc (.cells #[.int .u8 (c.toNat : Int)] 5)).cell? ⟨w1.heap.size, 0, none⟩ = some (.int .u8 (c.toNat : Int)) := by
    rw [World.cell?_alloc_at _ _ _ _ rfl]
    rfl
  have hlt2 : b < (w1.alloc (.cells #[.int .u8 (c.toNat : Int)] 5)).heap.size := by simp; omega
  have hsz2 : B ≤ (w1.alloc (.cells #[.int .u8 (c.toNat : Int)] 5)).heap.size := Nat.le_trans (Nat.le_trans hBw hb1.size) (by simp)
  have hsz3 : w.heap.size ≤ (w1.alloc (.cells #[.int .u8 (c.toNat : Int)] 5)).heap.size := Nat.le_trans hb1.size (by simp)
  clear hown hb1 hk1 hbk hlt
  go_wp2_with (at_builtin; refine wpList_append_own _ rfl _ _ 22 rfl B 5 i0 (.int .u8 0) 1 1 Tryd.underlying22 hi hz0 hz1 hz2 rfl (by decide) v _ _ rfl HOw.out ⟨w1.heap.size, 0, none⟩ 1 1 [.int .u8 (c.toNat : Int)] rfl rfl ?c1 ?c2 ?c3 ?c4 hsz2 ?_)
  case c1 =>
    intro j u hu
    have hj : j = 0 := by
      have := (List.getElem?_eq_some_iff.1 hu).1
      simpa using this
    subst hj
    simp at hu
    subst hu
    exact hnew
  case c2 =>
    intro u hu
    rw [List.mem_singleton.1 hu]
    rfl
  case c3 => rw [Lib.byteCells_length]; unfold maxLen; omega
  case c4 => rw [Lib.byteCells_length]; omega
  intro v' w2 hown' hgrow _
  have hb2 : w2.heap[b]? = some (.cells #[.pointer (some ⟨b, 0, none⟩), v] 60 (0, 0)) := by
    rw [hgrow.block b hlt2 (fun e => hne e.symm)]
    exact hbk2
  have d1 : w2.cell? ⟨b, 1, none⟩ = some v := by rw [Lib.cell_of_heap hb2]; rfl
  have f1 : w2.frozen? ⟨b, 1, none⟩ = false := Lib.frozen_of_heap hb2 1
  have HO := Lib.hid hown'
  have HG := Lib.hid (HBw.out.grown hgrow hsz2 (fun k hk => (HOw.out.lt k hk).1))
  have HK := Lib.hid (HKw.out.grown hsz3 HOw.out hgrow)
  obtain ⟨ao, n', cap, rfl⟩ : ∃ ao n' cap, v' = .slice ao n' cap := by
    rcases hown'.2 with ⟨hv, _⟩ | ⟨g, cap, cur, hv, _⟩
    · exact ⟨_, _, _, hv⟩
    · exact ⟨_, _, _, hv⟩
  clear hown' hgrow HOw HBw HKw hbk2 hnew hlt2 hsz2 hsz3 hne
  go_wp2
  go_ret
  refine ⟨⟨_, rfl⟩, .inr ?_, HG.out.setCell (p := ⟨b, 1, none⟩) hB _, HK.out.set 1 _⟩
  have ho := HO.out
  rw [byte_cells, ← Lib.byteCells_append, Lib.byteCells_length] at ho
  exact Lib.BuilderAt.put (T := 60) (e := 5) hB hb2 (bs' := Lib.byteCells (l ++ [c])) (by simpa [Lib.byteCells_length] using ho) (by decide)

set_option maxRecDepth 100000 in
/-- Len -/
theorem blenK (B b : Nat) (l : List UInt8) (w : World) (h : Builds w B b l) :
    Calls Tryd.prog 65 #[.pointer (some ⟨b, 0, none⟩)] w fun e w' => e = .returned (.int .i64 l.length) ∧ w' = w := by
  obtain ⟨v, hbk, hown⟩ : ∃ v, (∃ p, w.heap[b]? = some (.cells #[p, v] 60 (0, 0))) ∧ w.ownsRow B 5 1 v (Lib.byteCells l).length (Lib.byteCells l) := by
    rcases h with ⟨_, v, h1, h2, _⟩ | ⟨_, v, h1, h2, _⟩
    · exact ⟨v, ⟨_, h1⟩, h2⟩
    · exact ⟨v, ⟨_, h1⟩, h2⟩
  obtain ⟨p, hbk⟩ := hbk
  obtain ⟨A, cap, rfl⟩ : ∃ A cap, v = .slice A l.length cap := by
    rw [Lib.byteCells_length] at hown
    rcases hown.2 with ⟨rfl, hz⟩ | ⟨g, cap, cur, rfl, _⟩
    · rw [hz]; exact ⟨none, 0, rfl⟩
    · exact ⟨_, cap, rfl⟩
  have c1 : w.cell? ⟨b, 1, none⟩ = some (.slice A l.length cap) := by rw [Lib.cell_of_heap hbk]; rfl
  clear hown hbk h
  go_enter Tryd.func65, Tryd.ntmps65
  go_wp2
  go_ret
  exact ⟨rfl, rfl⟩
end Go.Proofs.YtjbppociogoopaaDoor
