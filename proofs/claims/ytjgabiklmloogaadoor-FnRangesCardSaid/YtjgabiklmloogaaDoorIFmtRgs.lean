/-
  What impl.FormatRanges returns: the ranges in decimal, a blank between two, or the word none.
-/
import Derived.Test.YtjgabiklmloogaaDoorFmtN
import Derived.Test.YtjgabiklmloogaaDoorIFormatD
import Derived.Test.YtjgabiklmloogaaDoorSRng6
import Derived.Test.YtjgabiklmloogaaDoorRgAid
namespace Go.Proofs.YtjgabiklmloogaaDoor
open Go.RowKit Go.Deep Go.Proofs.YtjgabiklmloogaaDoor.Num

theorem gPow : Tryd.prog.globalNamed powName = some 1 := by kernel_rfl
theorem lt_cell {w : World} {a : Addr} {v : Value} (h : w.cell? a = some v) : a.block < w.heap.size := Nat.lt_of_not_le fun hle => by
  have : w.cell? a = none := by simp [World.cell?, Array.getElem?_eq_none hle]
  rw [this] at h
  cases h
theorem pow_lt {w : World} (h : Pow w) : 1 < w.heap.size := lt_cell (Lib.TabIs.cell h gPow 0 (by decide))
theorem Pow.keep {w w' : World} (h : Pow w) (hb : Below w.heap.size w w') : Pow w' := tab_keep gPow h hb (pow_lt h)

/-- The strings of these bytes. -/
def valsT (l : List (List UInt8)) : List Value := l.map fun x => .string ⟨x.toArray⟩
theorem valsT_at (l : List (List UInt8)) (j : Nat) (h : j < l.length) : (valsT l)[j]? = some (.string ⟨l[j].toArray⟩) := by
  simp [valsT, h]
theorem valsT_set (l : List (List UInt8)) (j : Nat) (x : List UInt8) : (valsT l).set j (.string ⟨x.toArray⟩) = valsT (l.set j x) := by
  simp [valsT, List.map_set]
/-- A row of n strings in block g, the call's own. -/
def RowT (w : World) (base g n : Nat) (l : List (List UInt8)) : Prop := l.length = n ∧ w.ownsRow base 9 1 (.slice (some ⟨g, 0, none⟩) n n) n (valsT l)
theorem RowT.ge {w : World} {base g n : Nat} {l : List (List UInt8)} (h : RowT w base g n l) : base ≤ g ∧ g < w.heap.size := World.ownsRow.lt h.2 g rfl
theorem RowT.cell {w : World} {base g n : Nat} {l : List (List UInt8)} (h : RowT w base g n l) (j : Nat) (hj : j < l.length) : w.cell? ⟨g, j, none⟩ = some (.string ⟨l[j].toArray⟩) := by
  have hn := h.1
  exact (World.ownsRow.cellAt h.2 j (by omega)).trans (valsT_at l j hj)
theorem RowT.free {w : World} {base g n : Nat} {l : List (List UInt8)} (h : RowT w base g n l) (k : Nat) : w.frozen? ⟨g, k, none⟩ = false := World.ownsRow.frozenAt h.2 k
theorem RowT.later {w w' : World} {base g n : Nat} {l : List (List UInt8)} (h : RowT w base g n l) (hb : Below w.heap.size w w') : RowT w' base g n l := ⟨h.1, owns_later h.2 hb⟩
theorem RowT.alloc {w : World} {base g n : Nat} {l : List (List UInt8)} (h : RowT w base g n l) (o : Obj) : RowT (w.alloc o) base g n l := ⟨h.1, World.ownsRow.alloc h.2 o⟩
theorem RowT.store {w : World} {base g n : Nat} {l : List (List UInt8)} (h : RowT w base g n l) (j : Nat) (x : List UInt8) : RowT (w.setCell ⟨g, j, none⟩ (.string ⟨x.toArray⟩)) base g n (l.set j x) := by
  refine ⟨by simpa using h.1, ?_⟩
  rw [← valsT_set]
  exact (World.ownsRow.stored h.2 j (.string ⟨x.toArray⟩)).1
theorem infoT : (Tryd.prog.info? 9).map (fun i => (i.zero, i.size, i.bytes)) = some (some (.string ⟨#[]⟩), 1, 16) := by kernel_rfl
theorem madeT (n : Nat) : (madeCells #[Value.string ⟨#[]⟩] (n * 1)).toList = valsT (List.replicate n []) := by
  apply List.ext_getElem?
  intro j
  by_cases hj : j < n
  · simp [madeCells, valsT, hj, Nat.mod_one]
  · simp [madeCells, valsT, hj]
theorem make_texts (n : Nat) (hn : n ≤ 1048576) (w : World) :
    ∃ w', (Instr.makeSlice 62 (.int .i64 (n : Int)) (.int .i64 (n : Int))).run Tryd.prog w = .ok (.slice (some ⟨w.heap.size, 0, none⟩) n n) w' ∧ RowT w' w.heap.size w.heap.size n (List.replicate n []) ∧ Below w.heap.size w w' := by
  obtain ⟨i0, hi, hz0, hz1, hz2⟩ := info_parts infoT
  obtain ⟨w', h1, h2, h3⟩ := run_make_full w w.heap.size 62 9 i0 (.string ⟨#[]⟩) 1 Tryd.underlying62 hi hz0 hz1 .i64 .i64 n (by rw [hz2]; omega) (by unfold maxLen; omega) (Nat.le_refl _)
  refine ⟨w', h1, ⟨by simp, ?_⟩, (Below.refl _ _).grown h3 (Nat.le_refl _) (fun k hk => by cases hk)⟩
  rw [← madeT]
  exact h2
theorem set_takeT {l : List Rg} {m : List (List UInt8)} {j : Nat} (hl : m.length = l.length) (h : m.take j = (l.take j).map wordR) (hj : j < l.length) (x : Rg) (hx : l[j] = x) : (m.set j (wordR x)).take (j + 1) = (l.take (j + 1)).map wordR := by
  rw [List.take_succ_eq_append_getElem hj, List.take_succ_eq_append_getElem (by simpa [hl] using hj), hx]
  have e : (m.set j (wordR x)).take j = (l.take j).map wordR := by rw [List.take_set, List.set_eq_of_length_le (by rw [List.length_take]; omega), h]
  rw [e]
  simp

/-- strings.Join, of the ranges' words -/
theorem ijoin (l : List Rg) (hi : InR l) (hn : l.length ≤ 1048576) (base g : Nat) (w : World) (ho : RowT w base g l.length (l.map wordR)) :
    Calls Tryd.prog 43 #[.slice (some ⟨g, 0, none⟩) l.length l.length, .string ⟨#[32]⟩] w fun e w' => e = .returned (.string ⟨(wordsR l).toArray⟩) ∧ Below w.heap.size w w' := by
  have hm : (l.map fun x => (⟨(wordR x).toArray⟩ : ByteArray)).map (·.data.toList) = l.map wordR := by simp
  have h := Any.strings_Join Tryd.lays156 Tryd.Builder_Extra_156 g 0 l.length (l.map fun x => (⟨(wordR x).toArray⟩ : ByteArray)) ⟨#[32]⟩ w
    (fun j x hx => by
      rw [List.getElem?_map] at hx
      obtain ⟨y, hy, rfl⟩ := Option.map_eq_some_iff.1 hx
      obtain ⟨hj, rfl⟩ := List.getElem?_eq_some_iff.1 hy
      have := ho.cell j (by simpa using hj)
      rw [Nat.zero_add, this]
      simp)
    ho.ge.2 (by simp; omega) (by simp)
    (by rw [hm]; have := wordsR_len l hi; unfold wordsR at this; exact Nat.le_trans this (by omega))
  rw [hm, List.length_map] at h
  exact h

set_option maxRecDepth 100000 in
set_option maxHeartbeats 1000000 in
/-- impl.FormatRanges -/
theorem ifmtr (l : List Rg) (A : Option Addr) (cap B : Nat) (w : World) (hB : B ≤ w.heap.size) (hr : Rgs w B A l) (hn : l.length ≤ 1048576) (hi : InR l) (hp : Pow w) :
    Calls Tryd.prog 22 #[.slice A l.length cap] w fun e w' => e = .returned (.string ⟨(textR l).toArray⟩) ∧ Below w.heap.size w w' := by
  by_cases hl : l = []
  · subst hl
    go_enter Tryd.func22, Tryd.ntmps22
    go_wp2
    go_ret
    exact ⟨rfl, Below.refl _ _⟩
  · have hz : ((l.length : Int) == 0) = false := by
      have : l.length ≠ 0 := fun h => hl (List.eq_nil_of_length_eq_zero h)
      simp; omega
    have HR := Lib.hid hr
    have HI := Lib.hid hi
    have HP := Lib.hid hp
    have HL := Lib.hid hl
    clear hr hi hp hl
    obtain ⟨w0, hmk, ho0, hb0⟩ := make_texts l.length hn w
    have HO0 := Lib.hid ho0
    have HB0 := Lib.hid hb0
    clear ho0 hb0
    go_enter Tryd.func22, Tryd.ntmps22
    go_wp2
    clear hmk
    go_loopw [14, 4, 5] (fun i _ _ wr => ∃ (j : Nat) (m : List (List UInt8)), j ≤ l.length ∧ i = .int .i64 j ∧ RowT wr w.heap.size w.heap.size l.length m ∧ m.take j = (l.take j).map wordR ∧ Below w.heap.size w wr) (fun i _ _ _ => l.length - (intOf i).toNat)
    case atStart => exact ⟨0, _, Nat.zero_le _, rfl, HO0.out, rfl, HB0.out⟩
    case round =>
      obtain ⟨j, m, hj, rfl, ho, ht, hb⟩ := hrel
      have HO := Lib.hid ho
      have HB := Lib.hid hb
      have HT := Lib.hid ht
      clear ho hb ht HO0 HB0
      by_cases hlt : j < l.length
      · have HRW := Lib.hid (HR.out.below hB HB.out)
        obtain ⟨b, off, rfl, hbB, c1, c2⟩ := HRW.out j hlt
        have HX : Hid (l[j] = l[j]) := Lib.hid rfl
        have HS : Hid (∀ x, l[j] = x → (m.set j (wordR x)).take (j + 1) = (l.take (j + 1)).map wordR) := Lib.hid (fun x hx => set_takeT HO.out.1 HT.out hlt x hx)
        have HIX : Hid ((-9223372036854775808 ≤ l[j].1 ∧ l[j].1 ≤ 9223372036854775807) ∧ -9223372036854775808 ≤ l[j].2 ∧ l[j].2 ≤ 9223372036854775807) := Lib.hid (HI.out _ (List.getElem_mem hlt))
        generalize hx : l[j] = x at *
        have HS2 := Lib.hid (HS.out x rfl)
        have hjm : j < m.length := by rw [HO.out.1]; exact hlt
        have hwr : w.heap.size ≤ wr.heap.size := HB.out.size
        have HOq : Hid (RowT (wr.alloc (.cells #[.int .i64 x.1, .int .i64 x.2] 26)).drew w.heap.size w.heap.size l.length m) := Lib.hid (HO.out.alloc _)
        have HBq := Lib.hid (HB.out.alloc hwr (.cells #[.int .i64 x.1, .int .i64 x.2] 26)).drew
        have HXq : Hid (Box (wr.alloc (.cells #[.int .i64 x.1, .int .i64 x.2] 26)).drew wr.heap.size x) := Lib.hid (Box.new wr x)
        have hxq : wr.heap.size < (wr.alloc (.cells #[.int .i64 x.1, .int .i64 x.2] 26)).drew.heap.size := by simp
        have HPq : Hid (Pow (wr.alloc (.cells #[.int .i64 x.1, .int .i64 x.2] 26)).drew) := Lib.hid (HP.out.keep HBq.out)
        obtain ⟨q1, q2⟩ : (wr.alloc (.cells #[.int .i64 x.1, .int .i64 x.2] 26)).drew.cell? ⟨wr.heap.size, 0, none⟩ = some (.int .i64 x.1) ∧ (wr.alloc (.cells #[.int .i64 x.1, .int .i64 x.2] 26)).drew.cell? ⟨wr.heap.size, 1, none⟩ = some (.int .i64 x.2) := HXq.out.cells
        have hne : wr.heap.size ≠ w.heap.size := by have := HO.out.ge.2; omega
        have hadd1 : ∀ W : World, (Op.stringOp .add ⟨(Lib.itoa x.1).toArray⟩ ⟨#[45]⟩).run Tryd.prog W = .ok (.string ⟨(Lib.itoa x.1 ++ [45]).toArray⟩) W := fun W =>
          add_str W (Lib.itoa x.1) [45] (by have := itoa_len x.1 HIX.out.1.1 HIX.out.1.2; simp; omega)
        have hadd2 : ∀ W : World, (Op.stringOp .add ⟨(Lib.itoa x.1 ++ [45]).toArray⟩ ⟨(Lib.itoa x.2).toArray⟩).run Tryd.prog W = .ok (.string ⟨(wordR x).toArray⟩) W := fun W => by
          rw [add_str W _ _ (by have := itoa_len x.1 HIX.out.1.1 HIX.out.1.2; have := itoa_len x.2 HIX.out.2.1 HIX.out.2.2; simp; omega)]
          simp [wordR]
        have q3 := HOq.out.cell j hjm
        have hfz := HOq.out.free
        have HF1 : Hid (∀ W, Pow W → Calls Tryd.prog 42 #[.int .i64 x.1] W fun e w' => e = .returned (.string ⟨(Lib.itoa x.1).toArray⟩) ∧ Below W.heap.size W w') := Lib.hid fun W hp => ifmt x.1 W HIX.out.1.1 HIX.out.1.2 hp
        have HF2 : Hid (∀ W, Pow W → Calls Tryd.prog 42 #[.int .i64 x.2] W fun e w' => e = .returned (.string ⟨(Lib.itoa x.2).toArray⟩) ∧ Below W.heap.size W w') := Lib.hid fun W hp => ifmt x.2 W HIX.out.2.1 HIX.out.2.2 hp
        clear hx HS HX HIX
        go_wp2
        go_region_held3 (fun W => W.cell? ⟨wr.heap.size, 0, none⟩ = some (.int .i64 x.1) ∧ W.cell? ⟨wr.heap.size, 1, none⟩ = some (.int .i64 x.2)) (first | exact ⟨q1, q2⟩ | exact ⟨(World.cell?_of_block (Below.heap_setCell _ _ _ _ hne)).trans q1, (World.cell?_of_block (Below.heap_setCell _ _ _ _ hne)).trans q2⟩) (first | (go_at_call 42; refine (HF1.out _ HPq.out).mono ?_; rintro e wa ⟨rfl, hbc⟩; have HPq := Lib.hid (HPq.out.keep hbc); have HOq := Lib.hid (HOq.out.later hbc); have HXq := Lib.hid (show Box _ wr.heap.size x from (hbc.block _ hxq).trans HXq.out); have hxq := Nat.lt_of_lt_of_le hxq hbc.size; have HBq := Lib.hid (HBq.out.trans (hbc.mono HBq.out.size)); obtain ⟨q1, q2⟩ := HXq.out.cells; have q3 := HOq.out.cell j hjm; have hfz := HOq.out.free; clear hbc) | (go_at_call 42; refine (HF2.out _ HPq.out).mono ?_; rintro e wa ⟨rfl, hbc⟩; have HPq := Lib.hid (HPq.out.keep hbc); have HOq := Lib.hid (HOq.out.later hbc); have HXq := Lib.hid (show Box _ wr.heap.size x from (hbc.block _ hxq).trans HXq.out); have hxq := Nat.lt_of_lt_of_le hxq hbc.size; have HBq := Lib.hid (HBq.out.trans (hbc.mono HBq.out.size)); obtain ⟨q1, q2⟩ := HXq.out.cells; have q3 := HOq.out.cell j hjm; have hfz := HOq.out.free; clear hbc))
        all_goals go_wp2
        all_goals go_roundw
        case rel => exact ⟨j + 1, _, hlt, by go_num, HOq.out.store j (wordR x), HS2.out, HBq.out.setCell (p := ⟨_, _, _⟩) (Nat.le_refl _) _⟩
        case measure => simp [intOf]; omega
      · obtain rfl : j = l.length := by omega
        have HE : Hid (m = l.map wordR) := Lib.hid (by
          have h := HT.out
          rw [List.take_of_length_le (by rw [HO.out.1]; exact Nat.le_refl _), List.take_of_length_le (Nat.le_refl _)] at h
          exact h)
        have HO2 := HO
        rw [HE.out] at HO2
        have HJ := Lib.hid (ijoin l HI.out hn w.heap.size w.heap.size wr HO2.out)
        have HTX : Hid (textR l = wordsR l) := Lib.hid (if_neg HL.out)
        go_wp2_with fail
        refine HJ.out.mono ?_
        rintro e w1 ⟨rfl, hb1⟩
        go_wp2
        go_ret
        exact ⟨by rw [HTX.out]; rfl, HB.out.trans (hb1.mono HB.out.size)⟩
end Go.Proofs.YtjgabiklmloogaaDoor
