/-
  What spec.l4Read returns: so many numbers, one after another.
-/
import Derived.Test.YtjbppociogoopaaDoorFrN2
import Derived.Test.YtjbppociogoopaaDoorSDecQ
import Derived.Test.YtjbppociogoopaaDoorInts
import Derived.Test.YtjbppociogoopaaDoorSFr4
namespace Go.Proofs.YtjbppociogoopaaDoor
open Go.RowKit Go.Deep Go.Proofs.YtjbppociogoopaaDoor.Num

/-- A slice of ints in a block of the call's own. -/
def IntsAt (w : World) (lo : Nat) (A : Option Addr) (l : List Int) : Prop := l = [] ∨ ∃ g, A = some ⟨g, 0, none⟩ ∧ lo ≤ g ∧ g < w.heap.size ∧ ∀ j (hj : j < l.length), w.cell? ⟨g, j, none⟩ = some (.int .i64 l[j])
theorem OwnI.at {w : World} {base : Nat} {v : Value} {zs : List Int} (h : OwnI w base v zs) : ∃ A cap, v = .slice A zs.length cap ∧ zs.length ≤ cap ∧ IntsAt w base A zs := by
  have h0 := h
  obtain ⟨_, h⟩ := h
  rcases h with ⟨rfl, hn⟩ | ⟨g, cap, cur, rfl, hb, hg, hle, _, _, _⟩
  · obtain rfl : zs = [] := List.eq_nil_of_length_eq_zero hn
    exact ⟨none, 0, rfl, by simp, .inl rfl⟩
  · refine ⟨_, cap, rfl, hle, .inr ⟨g, rfl, hb, (Array.getElem?_eq_some_iff.1 hg).1, fun j hj => ?_⟩⟩
    rw [World.ownsRow.cellAt h0 j (by omega)]
    simp [valsI, hj]
theorem IntsAt.lit (w : World) (lo : Nat) (zs : List Int) (hlo : lo ≤ w.heap.size) : IntsAt (w.alloc (.cells (cellsI zs) 3)) lo (some ⟨w.heap.size, 0, none⟩) zs := by
  refine .inr ⟨w.heap.size, rfl, hlo, by simp, fun j hj => ?_⟩
  rw [cell_of_row _ _ j _ _ _ (heap_alloc_new w (.cells (cellsI zs) 3))]
  simp [cellsI, valsI, List.getElem?_eq_getElem hj]
/-- What reading so many numbers gives. -/
def ReadP (L : List UInt8) (a n : Nat) (w : World) (e : Ending) (w' : World) : Prop :=
  ((∃ (l : List Int) (m : Nat) (A : Option Addr) (cap : Nat), readN n L = some (l, m) ∧ l.length = n ∧ e = .returned (.tuple #[.slice A l.length cap, .int .i64 (a + m : Nat), .bool true]) ∧ l.length ≤ cap ∧ IntsAt w' w.heap.size A l) ∨
   (readN n L = none ∧ ∃ (A : Option Addr) (cap : Nat), e = .returned (.tuple #[.slice A 3 cap, .int .i64 0, .bool false]) ∧ 3 ≤ cap ∧ IntsAt w' w.heap.size A [0, 0, 0])) ∧ Below w.heap.size w w'

set_option maxRecDepth 100000 in
/-- spec.l4Read -/
theorem sread (s : ByteArray) (a n : Nat) (w : World) (hs : s.size ≤ 1048576) (hn : n ≤ 3) :
    Calls Tryd.prog 61 #[.string s, .int .i64 a, .int .i64 n] w (ReadP (s.data.toList.drop a) a n w) := by
  have h3 : s.data.toList.length = s.size := by simp
  have hmx : s.size ≤ maxLen := by unfold maxLen; omega
  go_enter Tryd.func61, Tryd.ntmps61
  go_wp2
  go_loopw [9, 10, 1] (fun v i p wr => ∃ (j k : Nat) (acc : List Int), j ≤ n ∧ i = .int .i64 j ∧ p = .int .i64 (a + k : Nat) ∧ RdP (s.data.toList.drop a) n j acc k ∧ OwnI wr w.heap.size v acc ∧ Below w.heap.size w wr) (fun _ i _ _ => n - (intOf i).toNat)
  case atStart => exact ⟨0, 0, [], Nat.zero_le _, rfl, rfl, RdP.start _ _, OwnI.lit w w.heap.size 0 #[] (Nat.le_refl _) (by decide) rfl, (Below.refl _ _).alloc (Nat.le_refl _) _⟩
  case round =>
    obtain ⟨j, k, acc, hj, rfl, rfl, hr, ho, hb⟩ := hrel
    have HR := Lib.hid hr
    have HO := Lib.hid ho
    have HB := Lib.hid hb
    have hal := hr.1
    have hkl := hr.2.1
    rw [List.length_drop, h3] at hkl
    clear hr ho hb
    by_cases hlt : j < n
    · cases hd : decL ((s.data.toList.drop a).drop k) with
      | none =>
        have HN := Lib.hid (HR.out.bad hlt hd)
        have HC := Lib.hid (sdecq_no s ((a + k : Nat) : Int) wr hmx (Or.inr (by rw [Int.toNat_natCast, ← List.drop_drop]; exact hd)))
        clear hd hal
        go_wp2_with fail
        refine HC.out.mono ?_
        rintro e w1 ⟨rfl, rfl⟩
        go_wp2
        go_ret3
        exact ⟨.inr ⟨HN.out, _, _, rfl, Nat.le_refl _, IntsAt.lit wr w.heap.size [0, 0, 0] HB.out.size⟩, HB.out.alloc HB.out.size _⟩
      | some nk =>
        obtain ⟨x, c⟩ := nk
        have HR2 := Lib.hid (HR.out.step hlt hd)
        have HC := Lib.hid (sdecq_yes s (a + k) x c wr hmx (by rw [← List.drop_drop]; exact hd))
        have hc := (decL_some hd)
        rw [List.length_drop, List.length_drop, h3] at hc
        have hc1 := hc.1
        have hc2 := hc.2.1
        clear hd hc
        go_wp2_with fail
        refine HC.out.mono ?_
        rintro e w1 ⟨rfl, rfl⟩
        have hcell : (wr.alloc (.cells #[.int .i64 (x : Int)] 3)).cell? ⟨wr.heap.size, 0, none⟩ = some (.int .i64 (x : Int)) := by
          rw [World.cell?_alloc_at _ _ _ _ rfl]; rfl
        have HX := Lib.hid hcell
        clear hcell
        go_wp2_with (at_builtin; refine wpList_append_int _ rfl _ _ rfl w.heap.size _ acc rfl (HO.out.alloc _) wr.heap.size 1 (x : Int) rfl HX.out ?c1 ?c2 ?_)
        case c1 => omega
        case c2 => have := HB.out.size; simp; omega
        intro v' w2 ho2 hb2
        have HO2 := Lib.hid ho2
        have HB2 := Lib.hid ((HB.out.alloc HB.out.size _).trans hb2)
        clear ho2 hb2
        go_wp2
        go_roundw
        case rel => exact ⟨j + 1, k + c, _, hlt, by go_num, by go_num, HR2.out, HO2.out, HB2.out⟩
        case measure => simp [intOf]; omega
    · obtain rfl : n = j := by omega
      have HD := Lib.hid HR.out.done
      obtain ⟨A, cap, rfl, hcap, hints⟩ := HO.out.at
      have HI := Lib.hid hints
      clear hints
      go_wp2
      go_ret3
      exact ⟨.inl ⟨acc, k, A, cap, HD.out, hal, rfl, hcap, HI.out⟩, HB.out⟩
end Go.Proofs.YtjbppociogoopaaDoor
