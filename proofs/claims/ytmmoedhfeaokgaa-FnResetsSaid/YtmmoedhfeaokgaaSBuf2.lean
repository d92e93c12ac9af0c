/-
  What spec.ByteAt, ReadyBytes and EndOf return.
  What spec.ReadyBytes and EndOf return.
  What spec.EndOf and EqualBuffers return.
-/
import Derived.Test.YtmmoedhfeaokgaaSBuf1
import Derived.BigQuiet
import Derived.Deep.QuietTactic
import Derived.Deep.RegionHeld3
import Derived.Deep.RegionLaw
namespace Go.Proofs.Ytmmoedhfeaokgaa
open Go.RowKit Go.Deep Go.Proofs.Ytmmoedhfeaokgaa.Num

theorem byteB_step (l : List Ch) (j : Nat) (hj : j < l.length) (o : Int) : byteB (l.drop j) o = if inC l[j] o then atC l[j] o else byteB (l.drop (j + 1)) o := by
  rw [List.drop_eq_getElem_cons hj]
  rfl
theorem bytD_at (d : ByteArray) (k : Nat) (h : k < d.size) : bytD d k = ((d[k].toNat : Nat) : Int) := by
  unfold bytD
  have hl : k < d.data.toList.length := by simpa using h
  rw [List.getD_eq_getElem?_getD, List.getElem?_eq_getElem hl]
  rfl
set_option maxRecDepth 100000 in
set_option maxHeartbeats 1000000 in
/-- spec.ByteAt -/
theorem sbyteat (nx : Int) (l : List Ch) (o : Int) (A : Option Addr) (cap B : Nat) (w : World) (hB : B ≤ w.heap.size) (hr : Chs w B A l) (hn : l.length ≤ 1000000000) (hi : inB l) (ho : -9223372036854775808 ≤ o ∧ o ≤ 9223372036854775807) :
    Calls Try.prog 85 #[bfV nx (.slice A l.length cap), .int .i64 o] w fun e w' => e = .returned (.int .i64 (byteB l o)) ∧ Below w.heap.size w w' := by
  have HR := Lib.hid hr
  have HI := Lib.hid hi
  have HO := Lib.hid ho
  have H0 := Lib.hid (HeldB.start w nx (.slice A l.length cap))
  clear hr hi ho
  go_enter Try.func85, Try.ntmps85
  go_wp2
  go_loopw [5] (fun i wr => ∃ j : Nat, j ≤ l.length ∧ i = .int .i64 j ∧ byteB l o = byteB (l.drop j) o ∧ HeldB w nx (.slice A l.length cap) wr) (fun i _ => l.length - (intOf i).toNat)
  case atStart => exact ⟨0, Nat.zero_le _, rfl, by rw [List.drop_zero], H0.out⟩
  case round =>
    obtain ⟨j, hj, rfl, hp, hh⟩ := hrel
    have HP := Lib.hid hp
    have HH := Lib.hid hh
    clear hp hh H0
    obtain ⟨q0, q1⟩ := HH.out.1.cells
    by_cases hlt : j < l.length
    · obtain ⟨g, off, rfl, hbB, c0, c1⟩ := (HR.out.below hB HH.out.2).cells j hlt
      have hin := HI.out l[j] (List.getElem_mem hlt)
      have HD : Hid (byteB l o = if inC l[j] o then atC l[j] o else byteB (l.drop (j + 1)) o) := Lib.hid (HP.out.trans (byteB_step l j hlt o))
      generalize l[j] = c at *
      unfold maxLen at hin
      have ho := HO.out
      by_cases h1 : 0 ≤ o
      · have hd1 : decide (0 ≤ o) = true := decide_eq_true h1
        by_cases h2 : 0 ≤ c.off
        · have hd2 : decide (0 ≤ c.off) = true := decide_eq_true h2
          obtain ⟨d, hdd⟩ : ∃ d : Int, o - c.off = d := ⟨_, rfl⟩
          have hw : wrap64 (o - c.off) = d := by unfold wrap64; omega
          by_cases h3 : 0 ≤ d
          · have hd3 : decide (0 ≤ d) = true := decide_eq_true h3
            by_cases h4 : d < c.data.size
            · obtain ⟨k, rfl⟩ := Int.eq_ofNat_of_zero_le h3
              have hd4 : decide ((k : Int) < (c.data.size : Int)) = true := decide_eq_true h4
              have hks : k < c.data.size := by omega
              have HV : Hid (byteB l o = ((c.data[k].toNat : Nat) : Int)) := Lib.hid (by
                rw [HD.out, if_pos (show inC c o from ⟨h2, by omega, by omega⟩)]
                unfold atC
                rw [hdd, Int.toNat_natCast]
                exact bytD_at c.data k hks)
              have hbl := c.data[k].toNat_lt
              clear h1 h2 h3 h4 ho hin hdd
              go_wp2
              go_ret
              exact ⟨by rw [HV.out]; first | rfl | (congr 2; unfold wrap64; omega), HH.out.2⟩
            · have hd4 : decide (d < (c.data.size : Int)) = false := decide_eq_false h4
              have HV : Hid (byteB l o = byteB (l.drop (j + 1)) o) := Lib.hid (by rw [HD.out, if_neg (fun h : inC c o => h4 (by have := h.2.2; omega))])
              clear h1 h2 h3 h4 ho hin hdd
              go_wp2
              go_roundw
              case rel => exact ⟨j + 1, hlt, by go_num, HV.out, HH.out⟩
              case measure => simp [intOf]; omega
          · have hd3 : decide (0 ≤ d) = false := decide_eq_false h3
            have HV : Hid (byteB l o = byteB (l.drop (j + 1)) o) := Lib.hid (by rw [HD.out, if_neg (fun h : inC c o => h3 (by have := h.2.1; omega))])
            clear h1 h2 h3 ho hin hdd
            go_wp2
            go_roundw
            case rel => exact ⟨j + 1, hlt, by go_num, HV.out, HH.out⟩
            case measure => simp [intOf]; omega
        · have hd2 : decide (0 ≤ c.off) = false := decide_eq_false h2
          have HV : Hid (byteB l o = byteB (l.drop (j + 1)) o) := Lib.hid (by rw [HD.out, if_neg (fun h : inC c o => h2 h.1)])
          clear h1 h2 ho hin
          go_wp2
          go_roundw
          case rel => exact ⟨j + 1, hlt, by go_num, HV.out, HH.out⟩
          case measure => simp [intOf]; omega
      · have hd1 : decide (0 ≤ o) = false := decide_eq_false h1
        have HV : Hid (byteB l o = byteB (l.drop (j + 1)) o) := Lib.hid (by rw [HD.out, if_neg (fun h : inC c o => h1 (by have := h.1; have := h.2.1; omega))])
        clear h1 ho hin
        go_wp2
        go_roundw
        case rel => exact ⟨j + 1, hlt, by go_num, HV.out, HH.out⟩
        case measure => simp [intOf]; omega
    · obtain rfl : j = l.length := by omega
      have HV : Hid (byteB l o = -1) := Lib.hid (by rw [HP.out, List.drop_length]; rfl)
      go_wp2
      go_ret
      exact ⟨by rw [HV.out]; rfl, HH.out.2⟩
end Go.Proofs.Ytmmoedhfeaokgaa

namespace Go.Proofs.Ytmmoedhfeaokgaa
open Go.RowKit Go.Deep Go.Proofs.Ytmmoedhfeaokgaa.Num

set_option maxRecDepth 100000 in
set_option maxHeartbeats 2000000 in
/-- spec.ReadyBytes -/
theorem sready (b : Bf) (A : Option Addr) (cap B : Nat) (w : World) (hB : B ≤ w.heap.size) (hr : Chs w B A b.chs) (hn : b.chs.length ≤ 1000000000) (hi : inB b.chs) (hnx : -9223372036854775808 ≤ b.next ∧ b.next ≤ 9223372036854775807) :
    Calls Try.prog 52 #[bfV b.next (.slice A b.chs.length cap)] w fun e w' => e = .returned (.int .i64 (rdyB b : Nat)) ∧ Below w.heap.size w w' := by
  have HR := Lib.hid hr
  have HIS : Hid (∀ W, B ≤ W.heap.size → Chs W B A b.chs → Calls Try.prog 50 #[bfV b.next (.slice A b.chs.length cap)] W fun e w' => e = .returned (.bool (decide (okB b))) ∧ Below W.heap.size W w') := Lib.hid fun W h1 h2 => sisb b A cap B W h1 h2 hn hi hnx
  have HH := Lib.hid (HeldB.start w b.next (.slice A b.chs.length cap)).drew
  have HI := Lib.hid hi
  have HRD : Hid (rdyB b = if okB b then (match b.chs with | [] => 0 | c :: _ => if c.off = b.next then c.data.size else 0) else 0) := Lib.hid rfl
  obtain ⟨nx, l⟩ := b
  dsimp only at HR HIS HH hn HRD
  clear hr hi hnx HI
  by_cases hok : okB ⟨nx, l⟩
  · rw [decide_eq_true hok] at HIS
    rw [if_pos hok] at HRD
    cases l with
    | nil =>
      have hS0 := HH.out
      clear hok
      go_enter Try.func52, Try.ntmps52
      go_wp2
      refine wp_region_held_drew (S := HeldB w nx (.slice A ([] : List Ch).length cap)) (by kernel_rfl) hS0 (fun hHeld => ?_)
      refine wpAnyH_take (i := 0) (v := ?_) rfl (by kernel_rfl) (by kernel_rfl) (by kernel_rfl) (fun _ _ _ h => h) (Or.inl ⟨by rfl, ?_⟩) hHeld ?_
      rotate_left
      · (intro wx hSx; obtain ⟨⟨q0, q1⟩, _⟩ : (_ ∧ _) ∧ True := ⟨hSx.1.cells, trivial⟩; go_simp; (try with_reducible rfl))
      (try simp only [Act.put, List.getElem_toArray, List.getElem_cons_zero, List.setIfInBounds_toArray, List.set_cons_succ, List.set_cons_zero])
      refine wpAnyH_ready (rs := [1]) (by kernel_rfl) (by simp) ?_
      refine AllReadyH.cons rfl (fun K hK => ?_) AllReadyH.nil
      rw [if_pos (by rfl)]
      go_simp
      refine (HIS.out _ (Nat.le_trans hB HH.out.2.size) (HR.out.below hB HH.out.2)).mono ?_
      rintro e w1 ⟨rfl, hb1⟩
      have HH := Lib.hid (HH.out.next hb1)
      (try simp only [])
      refine hK.out _ _ HH.out (fun hHeld => ?_)
      clear hb1
      clear hK K
      (try simp only [Act.put, List.getElem_toArray, List.getElem_cons_succ, List.getElem_cons_zero, List.setIfInBounds_toArray, List.set_cons_succ, List.set_cons_zero])
      refine wpAnyH_take (i := 2) (v := ?_) rfl (by kernel_rfl) (by kernel_rfl) (by kernel_rfl) (fun _ _ _ h => h) (Or.inl ⟨by rfl, ?_⟩) hHeld ?_
      rotate_left
      · (intro wx hSx; obtain ⟨⟨q0, q1⟩, _⟩ : (_ ∧ _) ∧ True := ⟨hSx.1.cells, trivial⟩; go_simp; (try with_reducible rfl))
      (try simp only [Act.put, List.getElem_toArray, List.getElem_cons_succ, List.getElem_cons_zero, List.setIfInBounds_toArray, List.set_cons_succ, List.set_cons_zero])
      refine wpAnyH_take (i := 3) (v := ?_) rfl (by kernel_rfl) (by kernel_rfl) (by kernel_rfl) (fun _ _ _ h => h) (Or.inl ⟨by rfl, ?_⟩) hHeld ?_
      rotate_left
      · (intro wx hSx; obtain ⟨⟨q0, q1⟩, _⟩ : (_ ∧ _) ∧ True := ⟨hSx.1.cells, trivial⟩; go_simp; (try with_reducible rfl))
      (try simp only [Act.put, List.getElem_toArray, List.getElem_cons_succ, List.getElem_cons_zero, List.setIfInBounds_toArray, List.set_cons_succ, List.set_cons_zero])
      refine wpAnyH_take (i := 4) (v := ?_) rfl (by kernel_rfl) (by kernel_rfl) (by kernel_rfl) (fun _ _ _ h => h) (Or.inl ⟨by rfl, ?_⟩) hHeld ?_
      rotate_left
      · (intro wx hSx; obtain ⟨⟨q0, q1⟩, _⟩ : (_ ∧ _) ∧ True := ⟨hSx.1.cells, trivial⟩; go_simp; (try with_reducible rfl))
      (try simp only [Act.put, List.getElem_toArray, List.getElem_cons_succ, List.getElem_cons_zero, List.setIfInBounds_toArray, List.set_cons_succ, List.set_cons_zero])
      refine wpAnyH_take (i := 5) (v := ?_) rfl (by kernel_rfl) (by kernel_rfl) (by kernel_rfl) (fun _ _ _ h => h) (Or.inl ⟨by rfl, ?_⟩) hHeld ?_
      rotate_left
      · (intro wx hSx; obtain ⟨⟨q0, q1⟩, _⟩ : (_ ∧ _) ∧ True := ⟨hSx.1.cells, trivial⟩; go_simp; (try with_reducible rfl))
      (try simp only [Act.put, List.getElem_toArray, List.getElem_cons_succ, List.getElem_cons_zero, List.setIfInBounds_toArray, List.set_cons_succ, List.set_cons_zero])
      refine wpAnyH_take (i := 6) (v := ?_) rfl (by kernel_rfl) (by kernel_rfl) (by kernel_rfl) (fun _ _ _ h => h) (Or.inl ⟨by rfl, ?_⟩) hHeld ?_
      rotate_left
      · (intro wx hSx; obtain ⟨⟨q0, q1⟩, _⟩ : (_ ∧ _) ∧ True := ⟨hSx.1.cells, trivial⟩; go_simp; (try with_reducible rfl))
      (try simp only [Act.put, List.getElem_toArray, List.getElem_cons_succ, List.getElem_cons_zero, List.setIfInBounds_toArray, List.set_cons_succ, List.set_cons_zero])
      refine wpAnyH_take (i := 7) (v := ?_) rfl (by kernel_rfl) (by kernel_rfl) (by kernel_rfl) (fun _ _ _ h => h) (Or.inl ⟨by rfl, ?_⟩) hHeld ?_
      rotate_left
      · (intro wx hSx; obtain ⟨⟨q0, q1⟩, _⟩ : (_ ∧ _) ∧ True := ⟨hSx.1.cells, trivial⟩; go_simp; (try with_reducible rfl))
      (try simp only [Act.put, List.getElem_toArray, List.getElem_cons_succ, List.getElem_cons_zero, List.setIfInBounds_toArray, List.set_cons_succ, List.set_cons_zero])
      refine wpAnyH_take (i := 8) (v := ?_) rfl (by kernel_rfl) (by kernel_rfl) (by kernel_rfl) (fun _ _ _ h => h) (Or.inl ⟨by rfl, ?_⟩) hHeld ?_
      rotate_left
      · (intro wx hSx; obtain ⟨⟨q0, q1⟩, _⟩ : (_ ∧ _) ∧ True := ⟨hSx.1.cells, trivial⟩; go_simp; (try with_reducible rfl))
      (try simp only [Act.put, List.getElem_toArray, List.getElem_cons_succ, List.getElem_cons_zero, List.setIfInBounds_toArray, List.set_cons_succ, List.set_cons_zero])
      refine wpAnyH_take (i := 9) (v := ?_) rfl (by kernel_rfl) (by kernel_rfl) (by kernel_rfl) (fun _ _ _ h => h) (Or.inl ⟨by rfl, ?_⟩) hHeld ?_
      rotate_left
      · (intro wx hSx; obtain ⟨⟨q0, q1⟩, _⟩ : (_ ∧ _) ∧ True := ⟨hSx.1.cells, trivial⟩; go_simp; (try with_reducible rfl))
      (try simp only [Act.put, List.getElem_toArray, List.getElem_cons_succ, List.getElem_cons_zero, List.setIfInBounds_toArray, List.set_cons_succ, List.set_cons_zero])
      refine wpAnyH_take (i := 10) (v := undef) rfl (by kernel_rfl) (by kernel_rfl) (by kernel_rfl) (fun _ _ _ h => h) (Or.inr ⟨by rfl, rfl⟩) hHeld ?_
      (try simp only [Act.put, List.getElem_toArray, List.getElem_cons_succ, List.getElem_cons_zero, List.setIfInBounds_toArray, List.set_cons_succ, List.set_cons_zero])
      refine wpAnyH_take (i := 11) (v := undef) rfl (by kernel_rfl) (by kernel_rfl) (by kernel_rfl) (fun _ _ _ h => h) (Or.inr ⟨by rfl, rfl⟩) hHeld ?_
      (try simp only [Act.put, List.getElem_toArray, List.getElem_cons_succ, List.getElem_cons_zero, List.setIfInBounds_toArray, List.set_cons_succ, List.set_cons_zero])
      refine wpAnyH_take (i := 12) (v := undef) rfl (by kernel_rfl) (by kernel_rfl) (by kernel_rfl) (fun _ _ _ h => h) (Or.inr ⟨by rfl, rfl⟩) hHeld ?_
      (try simp only [Act.put, List.getElem_toArray, List.getElem_cons_succ, List.getElem_cons_zero, List.setIfInBounds_toArray, List.set_cons_succ, List.set_cons_zero])
      refine wpAnyH_take (i := 13) (v := undef) rfl (by kernel_rfl) (by kernel_rfl) (by kernel_rfl) (fun _ _ _ h => h) (Or.inr ⟨by rfl, rfl⟩) hHeld ?_
      (try simp only [Act.put, List.getElem_toArray, List.getElem_cons_succ, List.getElem_cons_zero, List.setIfInBounds_toArray, List.set_cons_succ, List.set_cons_zero])
      refine wpAnyH_take (i := 14) (v := undef) rfl (by kernel_rfl) (by kernel_rfl) (by kernel_rfl) (fun _ _ _ h => h) (Or.inr ⟨by rfl, rfl⟩) hHeld ?_
      (try simp only [Act.put, List.getElem_toArray, List.getElem_cons_succ, List.getElem_cons_zero, List.setIfInBounds_toArray, List.set_cons_succ, List.set_cons_zero])
      refine wpAnyH_take (i := 15) (v := undef) rfl (by kernel_rfl) (by kernel_rfl) (by kernel_rfl) (fun _ _ _ h => h) (Or.inr ⟨by rfl, rfl⟩) hHeld ?_
      (try simp only [Act.put, List.getElem_toArray, List.getElem_cons_succ, List.getElem_cons_zero, List.setIfInBounds_toArray, List.set_cons_succ, List.set_cons_zero])
      refine wpAnyH_take (i := 16) (v := undef) rfl (by kernel_rfl) (by kernel_rfl) (by kernel_rfl) (fun _ _ _ h => h) (Or.inr ⟨by rfl, rfl⟩) hHeld ?_
      (try simp only [Act.put, List.getElem_toArray, List.getElem_cons_succ, List.getElem_cons_zero, List.setIfInBounds_toArray, List.set_cons_succ, List.set_cons_zero])
      refine wpAnyH_take (i := 17) (v := undef) rfl (by kernel_rfl) (by kernel_rfl) (by kernel_rfl) (fun _ _ _ h => h) (Or.inr ⟨by rfl, rfl⟩) hHeld ?_
      (try simp only [Act.put, List.getElem_toArray, List.getElem_cons_succ, List.getElem_cons_zero, List.setIfInBounds_toArray, List.set_cons_succ, List.set_cons_zero])
      refine wpAnyH_take (i := 18) (v := ?_) rfl (by kernel_rfl) (by kernel_rfl) (by kernel_rfl) (fun _ _ _ h => h) (Or.inl ⟨by rfl, ?_⟩) hHeld ?_
      rotate_left
      · (intro wx hSx; obtain ⟨⟨q0, q1⟩, _⟩ : (_ ∧ _) ∧ True := ⟨hSx.1.cells, trivial⟩; go_simp; (try with_reducible rfl))
      (try simp only [Act.put, List.getElem_toArray, List.getElem_cons_succ, List.getElem_cons_zero, List.setIfInBounds_toArray, List.set_cons_succ, List.set_cons_zero])
      refine wpAnyH_done (by kernel_rfl) ?_ _
      clear hHeld
      go_wp2
      go_ret
      exact ⟨by rw [HRD.out]; rfl, HH.out.2⟩
    | cons c l =>
      obtain ⟨g, off, rfl, hbB, c0, c1⟩ := HR.out.cells 0 (by simp)
      simp only [Nat.zero_mul, Nat.add_zero, List.getElem_cons_zero] at c0 c1
      have HC0 : Hid (∀ W, Below w.heap.size w W → W.cell? ⟨g, off, none⟩ = some (.int .i64 c.off)) := Lib.hid fun W h => (h.cell (p := ⟨g, off, none⟩) (by show g < _; omega)).trans c0
      have HC1 : Hid (∀ W, Below w.heap.size w W → W.cell? ⟨g, off + 1, none⟩ = some (.string c.data)) := Lib.hid fun W h => (h.cell (p := ⟨g, off + 1, none⟩) (by show g < _; omega)).trans c1
      have hS0 := HH.out
      have hz : (((l.length : Int) + 1) == 0) = false := by simp; omega
      simp only [List.length_cons] at HIS HH hS0
      clear hok c0 c1
      by_cases he : c.off = nx
      · have hd : (c.off == nx) = true := by simpa using he
        have HV : Hid (rdyB ⟨nx, c :: l⟩ = c.data.size) := Lib.hid (by rw [HRD.out]; exact if_pos he)
        clear he HRD
        go_enter Try.func52, Try.ntmps52
        go_wp2
        refine wp_region_held_drew (S := HeldB w nx (.slice (some ⟨g, off, none⟩) (l.length + 1) cap)) (by kernel_rfl) hS0 (fun hHeld => ?_)
        refine wpAnyH_take (i := 0) (v := ?_) rfl (by kernel_rfl) (by kernel_rfl) (by kernel_rfl) (fun _ _ _ h => h) (Or.inl ⟨by rfl, ?_⟩) hHeld ?_
        rotate_left
        · (intro wx hSx; obtain ⟨⟨q0, q1⟩, c0⟩ : (_ ∧ _) ∧ _ := ⟨hSx.1.cells, HC0.out _ hSx.2⟩; go_simp; (try with_reducible rfl))
        (try simp only [Act.put, List.getElem_toArray, List.getElem_cons_zero, List.setIfInBounds_toArray, List.set_cons_succ, List.set_cons_zero])
        refine wpAnyH_ready (rs := [1]) (by kernel_rfl) (by simp) ?_
        refine AllReadyH.cons rfl (fun K hK => ?_) AllReadyH.nil
        rw [if_pos (by rfl)]
        go_simp
        refine (HIS.out _ (Nat.le_trans hB HH.out.2.size) (HR.out.below hB HH.out.2)).mono ?_
        rintro e w1 ⟨rfl, hb1⟩
        have HH := Lib.hid (HH.out.next hb1)
        (try simp only [])
        refine hK.out _ _ HH.out (fun hHeld => ?_)
        clear hb1
        clear hK K
        (try simp only [Act.put, List.getElem_toArray, List.getElem_cons_succ, List.getElem_cons_zero, List.setIfInBounds_toArray, List.set_cons_succ, List.set_cons_zero])
        refine wpAnyH_take (i := 2) (v := ?_) rfl (by kernel_rfl) (by kernel_rfl) (by kernel_rfl) (fun _ _ _ h => h) (Or.inl ⟨by rfl, ?_⟩) hHeld ?_
        rotate_left
        · (intro wx hSx; obtain ⟨⟨q0, q1⟩, c0⟩ : (_ ∧ _) ∧ _ := ⟨hSx.1.cells, HC0.out _ hSx.2⟩; go_simp; (try with_reducible rfl))
        (try simp only [Act.put, List.getElem_toArray, List.getElem_cons_succ, List.getElem_cons_zero, List.setIfInBounds_toArray, List.set_cons_succ, List.set_cons_zero])
        refine wpAnyH_take (i := 3) (v := ?_) rfl (by kernel_rfl) (by kernel_rfl) (by kernel_rfl) (fun _ _ _ h => h) (Or.inl ⟨by rfl, ?_⟩) hHeld ?_
        rotate_left
        · (intro wx hSx; obtain ⟨⟨q0, q1⟩, c0⟩ : (_ ∧ _) ∧ _ := ⟨hSx.1.cells, HC0.out _ hSx.2⟩; go_simp; (try with_reducible rfl))
        (try simp only [Act.put, List.getElem_toArray, List.getElem_cons_succ, List.getElem_cons_zero, List.setIfInBounds_toArray, List.set_cons_succ, List.set_cons_zero])
        refine wpAnyH_take (i := 4) (v := ?_) rfl (by kernel_rfl) (by kernel_rfl) (by kernel_rfl) (fun _ _ _ h => h) (Or.inl ⟨by rfl, ?_⟩) hHeld ?_
        rotate_left
        · (intro wx hSx; obtain ⟨⟨q0, q1⟩, c0⟩ : (_ ∧ _) ∧ _ := ⟨hSx.1.cells, HC0.out _ hSx.2⟩; go_simp; (try with_reducible rfl))
        (try simp only [Act.put, List.getElem_toArray, List.getElem_cons_succ, List.getElem_cons_zero, List.setIfInBounds_toArray, List.set_cons_succ, List.set_cons_zero])
        refine wpAnyH_take (i := 5) (v := ?_) rfl (by kernel_rfl) (by kernel_rfl) (by kernel_rfl) (fun _ _ _ h => h) (Or.inl ⟨by rfl, ?_⟩) hHeld ?_
        rotate_left
        · (intro wx hSx; obtain ⟨⟨q0, q1⟩, c0⟩ : (_ ∧ _) ∧ _ := ⟨hSx.1.cells, HC0.out _ hSx.2⟩; go_simp; (try with_reducible rfl))
        (try simp only [Act.put, List.getElem_toArray, List.getElem_cons_succ, List.getElem_cons_zero, List.setIfInBounds_toArray, List.set_cons_succ, List.set_cons_zero])
        refine wpAnyH_take (i := 6) (v := ?_) rfl (by kernel_rfl) (by kernel_rfl) (by kernel_rfl) (fun _ _ _ h => h) (Or.inl ⟨by rfl, ?_⟩) hHeld ?_
        rotate_left
        · (intro wx hSx; obtain ⟨⟨q0, q1⟩, c0⟩ : (_ ∧ _) ∧ _ := ⟨hSx.1.cells, HC0.out _ hSx.2⟩; go_simp; (try with_reducible rfl))
        (try simp only [Act.put, List.getElem_toArray, List.getElem_cons_succ, List.getElem_cons_zero, List.setIfInBounds_toArray, List.set_cons_succ, List.set_cons_zero])
        refine wpAnyH_take (i := 7) (v := ?_) rfl (by kernel_rfl) (by kernel_rfl) (by kernel_rfl) (fun _ _ _ h => h) (Or.inl ⟨by rfl, ?_⟩) hHeld ?_
        rotate_left
        · (intro wx hSx; obtain ⟨⟨q0, q1⟩, c0⟩ : (_ ∧ _) ∧ _ := ⟨hSx.1.cells, HC0.out _ hSx.2⟩; go_simp; (try with_reducible rfl))
        (try simp only [Act.put, List.getElem_toArray, List.getElem_cons_succ, List.getElem_cons_zero, List.setIfInBounds_toArray, List.set_cons_succ, List.set_cons_zero])
        refine wpAnyH_take (i := 8) (v := ?_) rfl (by kernel_rfl) (by kernel_rfl) (by kernel_rfl) (fun _ _ _ h => h) (Or.inl ⟨by rfl, ?_⟩) hHeld ?_
        rotate_left
        · (intro wx hSx; obtain ⟨⟨q0, q1⟩, c0⟩ : (_ ∧ _) ∧ _ := ⟨hSx.1.cells, HC0.out _ hSx.2⟩; go_simp; (try with_reducible rfl))
        (try simp only [Act.put, List.getElem_toArray, List.getElem_cons_succ, List.getElem_cons_zero, List.setIfInBounds_toArray, List.set_cons_succ, List.set_cons_zero])
        refine wpAnyH_take (i := 9) (v := ?_) rfl (by kernel_rfl) (by kernel_rfl) (by kernel_rfl) (fun _ _ _ h => h) (Or.inl ⟨by rfl, ?_⟩) hHeld ?_
        rotate_left
        · (intro wx hSx; obtain ⟨⟨q0, q1⟩, c0⟩ : (_ ∧ _) ∧ _ := ⟨hSx.1.cells, HC0.out _ hSx.2⟩; go_simp; (try with_reducible rfl))
        (try simp only [Act.put, List.getElem_toArray, List.getElem_cons_succ, List.getElem_cons_zero, List.setIfInBounds_toArray, List.set_cons_succ, List.set_cons_zero])
        refine wpAnyH_take (i := 10) (v := ?_) rfl (by kernel_rfl) (by kernel_rfl) (by kernel_rfl) (fun _ _ _ h => h) (Or.inl ⟨by rfl, ?_⟩) hHeld ?_
        rotate_left
        · (intro wx hSx; obtain ⟨⟨q0, q1⟩, c0⟩ : (_ ∧ _) ∧ _ := ⟨hSx.1.cells, HC0.out _ hSx.2⟩; go_simp; (try with_reducible rfl))
        (try simp only [Act.put, List.getElem_toArray, List.getElem_cons_succ, List.getElem_cons_zero, List.setIfInBounds_toArray, List.set_cons_succ, List.set_cons_zero])
        refine wpAnyH_take (i := 11) (v := ?_) rfl (by kernel_rfl) (by kernel_rfl) (by kernel_rfl) (fun _ _ _ h => h) (Or.inl ⟨by rfl, ?_⟩) hHeld ?_
        rotate_left
        · (intro wx hSx; obtain ⟨⟨q0, q1⟩, c0⟩ : (_ ∧ _) ∧ _ := ⟨hSx.1.cells, HC0.out _ hSx.2⟩; go_simp; (try with_reducible rfl))
        (try simp only [Act.put, List.getElem_toArray, List.getElem_cons_succ, List.getElem_cons_zero, List.setIfInBounds_toArray, List.set_cons_succ, List.set_cons_zero])
        refine wpAnyH_take (i := 12) (v := ?_) rfl (by kernel_rfl) (by kernel_rfl) (by kernel_rfl) (fun _ _ _ h => h) (Or.inl ⟨by rfl, ?_⟩) hHeld ?_
        rotate_left
        · (intro wx hSx; obtain ⟨⟨q0, q1⟩, c0⟩ : (_ ∧ _) ∧ _ := ⟨hSx.1.cells, HC0.out _ hSx.2⟩; go_simp; (try with_reducible rfl))
        (try simp only [Act.put, List.getElem_toArray, List.getElem_cons_succ, List.getElem_cons_zero, List.setIfInBounds_toArray, List.set_cons_succ, List.set_cons_zero])
        refine wpAnyH_take (i := 13) (v := ?_) rfl (by kernel_rfl) (by kernel_rfl) (by kernel_rfl) (fun _ _ _ h => h) (Or.inl ⟨by rfl, ?_⟩) hHeld ?_
        rotate_left
        · (intro wx hSx; obtain ⟨⟨q0, q1⟩, c0⟩ : (_ ∧ _) ∧ _ := ⟨hSx.1.cells, HC0.out _ hSx.2⟩; go_simp; (try with_reducible rfl))
        (try simp only [Act.put, List.getElem_toArray, List.getElem_cons_succ, List.getElem_cons_zero, List.setIfInBounds_toArray, List.set_cons_succ, List.set_cons_zero])
        refine wpAnyH_take (i := 14) (v := ?_) rfl (by kernel_rfl) (by kernel_rfl) (by kernel_rfl) (fun _ _ _ h => h) (Or.inl ⟨by rfl, ?_⟩) hHeld ?_
        rotate_left
        · (intro wx hSx; obtain ⟨⟨q0, q1⟩, c0⟩ : (_ ∧ _) ∧ _ := ⟨hSx.1.cells, HC0.out _ hSx.2⟩; go_simp; (try with_reducible rfl))
        (try simp only [Act.put, List.getElem_toArray, List.getElem_cons_succ, List.getElem_cons_zero, List.setIfInBounds_toArray, List.set_cons_succ, List.set_cons_zero])
        refine wpAnyH_take (i := 15) (v := ?_) rfl (by kernel_rfl) (by kernel_rfl) (by kernel_rfl) (fun _ _ _ h => h) (Or.inl ⟨by rfl, ?_⟩) hHeld ?_
        rotate_left
        · (intro wx hSx; obtain ⟨⟨q0, q1⟩, c0⟩ : (_ ∧ _) ∧ _ := ⟨hSx.1.cells, HC0.out _ hSx.2⟩; go_simp; (try with_reducible rfl))
        (try simp only [Act.put, List.getElem_toArray, List.getElem_cons_succ, List.getElem_cons_zero, List.setIfInBounds_toArray, List.set_cons_succ, List.set_cons_zero])
        refine wpAnyH_take (i := 16) (v := ?_) rfl (by kernel_rfl) (by kernel_rfl) (by kernel_rfl) (fun _ _ _ h => h) (Or.inl ⟨by rfl, ?_⟩) hHeld ?_
        rotate_left
        · (intro wx hSx; obtain ⟨⟨q0, q1⟩, c0⟩ : (_ ∧ _) ∧ _ := ⟨hSx.1.cells, HC0.out _ hSx.2⟩; go_simp; (try with_reducible rfl))
        (try simp only [Act.put, List.getElem_toArray, List.getElem_cons_succ, List.getElem_cons_zero, List.setIfInBounds_toArray, List.set_cons_succ, List.set_cons_zero])
        refine wpAnyH_take (i := 17) (v := ?_) rfl (by kernel_rfl) (by kernel_rfl) (by kernel_rfl) (fun _ _ _ h => h) (Or.inl ⟨by rfl, ?_⟩) hHeld ?_
        rotate_left
        · (intro wx hSx; obtain ⟨⟨q0, q1⟩, c0⟩ : (_ ∧ _) ∧ _ := ⟨hSx.1.cells, HC0.out _ hSx.2⟩; go_simp; (try with_reducible rfl))
        (try simp only [Act.put, List.getElem_toArray, List.getElem_cons_succ, List.getElem_cons_zero, List.setIfInBounds_toArray, List.set_cons_succ, List.set_cons_zero])
        refine wpAnyH_take (i := 18) (v := ?_) rfl (by kernel_rfl) (by kernel_rfl) (by kernel_rfl) (fun _ _ _ h => h) (Or.inl ⟨by rfl, ?_⟩) hHeld ?_
        rotate_left
        · (intro wx hSx; obtain ⟨⟨q0, q1⟩, c0⟩ : (_ ∧ _) ∧ _ := ⟨hSx.1.cells, HC0.out _ hSx.2⟩; go_simp; (try with_reducible rfl))
        (try simp only [Act.put, List.getElem_toArray, List.getElem_cons_succ, List.getElem_cons_zero, List.setIfInBounds_toArray, List.set_cons_succ, List.set_cons_zero])
        refine wpAnyH_done (by kernel_rfl) ?_ _
        clear hHeld
        obtain ⟨q0, q1⟩ := HH.out.1.cells
        have c1 := HC1.out _ HH.out.2
        go_wp2
        go_ret
        exact ⟨by rw [HV.out]; rfl, HH.out.2⟩
      · have hd : (c.off == nx) = false := by simpa using he
        have HV : Hid (rdyB ⟨nx, c :: l⟩ = 0) := Lib.hid (by rw [HRD.out]; exact if_neg he)
        clear he HRD
        go_enter Try.func52, Try.ntmps52
        go_wp2
        refine wp_region_held_drew (S := HeldB w nx (.slice (some ⟨g, off, none⟩) (l.length + 1) cap)) (by kernel_rfl) hS0 (fun hHeld => ?_)
        refine wpAnyH_take (i := 0) (v := ?_) rfl (by kernel_rfl) (by kernel_rfl) (by kernel_rfl) (fun _ _ _ h => h) (Or.inl ⟨by rfl, ?_⟩) hHeld ?_
        rotate_left
        · (intro wx hSx; obtain ⟨⟨q0, q1⟩, c0⟩ : (_ ∧ _) ∧ _ := ⟨hSx.1.cells, HC0.out _ hSx.2⟩; go_simp; (try with_reducible rfl))
        (try simp only [Act.put, List.getElem_toArray, List.getElem_cons_zero, List.setIfInBounds_toArray, List.set_cons_succ, List.set_cons_zero])
        refine wpAnyH_ready (rs := [1]) (by kernel_rfl) (by simp) ?_
        refine AllReadyH.cons rfl (fun K hK => ?_) AllReadyH.nil
        rw [if_pos (by rfl)]
        go_simp
        refine (HIS.out _ (Nat.le_trans hB HH.out.2.size) (HR.out.below hB HH.out.2)).mono ?_
        rintro e w1 ⟨rfl, hb1⟩
        have HH := Lib.hid (HH.out.next hb1)
        (try simp only [])
        refine hK.out _ _ HH.out (fun hHeld => ?_)
        clear hb1
        clear hK K
        (try simp only [Act.put, List.getElem_toArray, List.getElem_cons_succ, List.getElem_cons_zero, List.setIfInBounds_toArray, List.set_cons_succ, List.set_cons_zero])
        refine wpAnyH_take (i := 2) (v := ?_) rfl (by kernel_rfl) (by kernel_rfl) (by kernel_rfl) (fun _ _ _ h => h) (Or.inl ⟨by rfl, ?_⟩) hHeld ?_
        rotate_left
        · (intro wx hSx; obtain ⟨⟨q0, q1⟩, c0⟩ : (_ ∧ _) ∧ _ := ⟨hSx.1.cells, HC0.out _ hSx.2⟩; go_simp; (try with_reducible rfl))
        (try simp only [Act.put, List.getElem_toArray, List.getElem_cons_succ, List.getElem_cons_zero, List.setIfInBounds_toArray, List.set_cons_succ, List.set_cons_zero])
        refine wpAnyH_take (i := 3) (v := ?_) rfl (by kernel_rfl) (by kernel_rfl) (by kernel_rfl) (fun _ _ _ h => h) (Or.inl ⟨by rfl, ?_⟩) hHeld ?_
        rotate_left
        · (intro wx hSx; obtain ⟨⟨q0, q1⟩, c0⟩ : (_ ∧ _) ∧ _ := ⟨hSx.1.cells, HC0.out _ hSx.2⟩; go_simp; (try with_reducible rfl))
        (try simp only [Act.put, List.getElem_toArray, List.getElem_cons_succ, List.getElem_cons_zero, List.setIfInBounds_toArray, List.set_cons_succ, List.set_cons_zero])
        refine wpAnyH_take (i := 4) (v := ?_) rfl (by kernel_rfl) (by kernel_rfl) (by kernel_rfl) (fun _ _ _ h => h) (Or.inl ⟨by rfl, ?_⟩) hHeld ?_
        rotate_left
        · (intro wx hSx; obtain ⟨⟨q0, q1⟩, c0⟩ : (_ ∧ _) ∧ _ := ⟨hSx.1.cells, HC0.out _ hSx.2⟩; go_simp; (try with_reducible rfl))
        (try simp only [Act.put, List.getElem_toArray, List.getElem_cons_succ, List.getElem_cons_zero, List.setIfInBounds_toArray, List.set_cons_succ, List.set_cons_zero])
        refine wpAnyH_take (i := 5) (v := ?_) rfl (by kernel_rfl) (by kernel_rfl) (by kernel_rfl) (fun _ _ _ h => h) (Or.inl ⟨by rfl, ?_⟩) hHeld ?_
        rotate_left
        · (intro wx hSx; obtain ⟨⟨q0, q1⟩, c0⟩ : (_ ∧ _) ∧ _ := ⟨hSx.1.cells, HC0.out _ hSx.2⟩; go_simp; (try with_reducible rfl))
        (try simp only [Act.put, List.getElem_toArray, List.getElem_cons_succ, List.getElem_cons_zero, List.setIfInBounds_toArray, List.set_cons_succ, List.set_cons_zero])
        refine wpAnyH_take (i := 6) (v := ?_) rfl (by kernel_rfl) (by kernel_rfl) (by kernel_rfl) (fun _ _ _ h => h) (Or.inl ⟨by rfl, ?_⟩) hHeld ?_
        rotate_left
        · (intro wx hSx; obtain ⟨⟨q0, q1⟩, c0⟩ : (_ ∧ _) ∧ _ := ⟨hSx.1.cells, HC0.out _ hSx.2⟩; go_simp; (try with_reducible rfl))
        (try simp only [Act.put, List.getElem_toArray, List.getElem_cons_succ, List.getElem_cons_zero, List.setIfInBounds_toArray, List.set_cons_succ, List.set_cons_zero])
        refine wpAnyH_take (i := 7) (v := ?_) rfl (by kernel_rfl) (by kernel_rfl) (by kernel_rfl) (fun _ _ _ h => h) (Or.inl ⟨by rfl, ?_⟩) hHeld ?_
        rotate_left
        · (intro wx hSx; obtain ⟨⟨q0, q1⟩, c0⟩ : (_ ∧ _) ∧ _ := ⟨hSx.1.cells, HC0.out _ hSx.2⟩; go_simp; (try with_reducible rfl))
        (try simp only [Act.put, List.getElem_toArray, List.getElem_cons_succ, List.getElem_cons_zero, List.setIfInBounds_toArray, List.set_cons_succ, List.set_cons_zero])
        refine wpAnyH_take (i := 8) (v := ?_) rfl (by kernel_rfl) (by kernel_rfl) (by kernel_rfl) (fun _ _ _ h => h) (Or.inl ⟨by rfl, ?_⟩) hHeld ?_
        rotate_left
        · (intro wx hSx; obtain ⟨⟨q0, q1⟩, c0⟩ : (_ ∧ _) ∧ _ := ⟨hSx.1.cells, HC0.out _ hSx.2⟩; go_simp; (try with_reducible rfl))
        (try simp only [Act.put, List.getElem_toArray, List.getElem_cons_succ, List.getElem_cons_zero, List.setIfInBounds_toArray, List.set_cons_succ, List.set_cons_zero])
        refine wpAnyH_take (i := 9) (v := ?_) rfl (by kernel_rfl) (by kernel_rfl) (by kernel_rfl) (fun _ _ _ h => h) (Or.inl ⟨by rfl, ?_⟩) hHeld ?_
        rotate_left
        · (intro wx hSx; obtain ⟨⟨q0, q1⟩, c0⟩ : (_ ∧ _) ∧ _ := ⟨hSx.1.cells, HC0.out _ hSx.2⟩; go_simp; (try with_reducible rfl))
        (try simp only [Act.put, List.getElem_toArray, List.getElem_cons_succ, List.getElem_cons_zero, List.setIfInBounds_toArray, List.set_cons_succ, List.set_cons_zero])
        refine wpAnyH_take (i := 10) (v := ?_) rfl (by kernel_rfl) (by kernel_rfl) (by kernel_rfl) (fun _ _ _ h => h) (Or.inl ⟨by rfl, ?_⟩) hHeld ?_
        rotate_left
        · (intro wx hSx; obtain ⟨⟨q0, q1⟩, c0⟩ : (_ ∧ _) ∧ _ := ⟨hSx.1.cells, HC0.out _ hSx.2⟩; go_simp; (try with_reducible rfl))
        (try simp only [Act.put, List.getElem_toArray, List.getElem_cons_succ, List.getElem_cons_zero, List.setIfInBounds_toArray, List.set_cons_succ, List.set_cons_zero])
        refine wpAnyH_take (i := 11) (v := ?_) rfl (by kernel_rfl) (by kernel_rfl) (by kernel_rfl) (fun _ _ _ h => h) (Or.inl ⟨by rfl, ?_⟩) hHeld ?_
        rotate_left
        · (intro wx hSx; obtain ⟨⟨q0, q1⟩, c0⟩ : (_ ∧ _) ∧ _ := ⟨hSx.1.cells, HC0.out _ hSx.2⟩; go_simp; (try with_reducible rfl))
        (try simp only [Act.put, List.getElem_toArray, List.getElem_cons_succ, List.getElem_cons_zero, List.setIfInBounds_toArray, List.set_cons_succ, List.set_cons_zero])
        refine wpAnyH_take (i := 12) (v := ?_) rfl (by kernel_rfl) (by kernel_rfl) (by kernel_rfl) (fun _ _ _ h => h) (Or.inl ⟨by rfl, ?_⟩) hHeld ?_
        rotate_left
        · (intro wx hSx; obtain ⟨⟨q0, q1⟩, c0⟩ : (_ ∧ _) ∧ _ := ⟨hSx.1.cells, HC0.out _ hSx.2⟩; go_simp; (try with_reducible rfl))
        (try simp only [Act.put, List.getElem_toArray, List.getElem_cons_succ, List.getElem_cons_zero, List.setIfInBounds_toArray, List.set_cons_succ, List.set_cons_zero])
        refine wpAnyH_take (i := 13) (v := ?_) rfl (by kernel_rfl) (by kernel_rfl) (by kernel_rfl) (fun _ _ _ h => h) (Or.inl ⟨by rfl, ?_⟩) hHeld ?_
        rotate_left
        · (intro wx hSx; obtain ⟨⟨q0, q1⟩, c0⟩ : (_ ∧ _) ∧ _ := ⟨hSx.1.cells, HC0.out _ hSx.2⟩; go_simp; (try with_reducible rfl))
        (try simp only [Act.put, List.getElem_toArray, List.getElem_cons_succ, List.getElem_cons_zero, List.setIfInBounds_toArray, List.set_cons_succ, List.set_cons_zero])
        refine wpAnyH_take (i := 14) (v := ?_) rfl (by kernel_rfl) (by kernel_rfl) (by kernel_rfl) (fun _ _ _ h => h) (Or.inl ⟨by rfl, ?_⟩) hHeld ?_
        rotate_left
        · (intro wx hSx; obtain ⟨⟨q0, q1⟩, c0⟩ : (_ ∧ _) ∧ _ := ⟨hSx.1.cells, HC0.out _ hSx.2⟩; go_simp; (try with_reducible rfl))
        (try simp only [Act.put, List.getElem_toArray, List.getElem_cons_succ, List.getElem_cons_zero, List.setIfInBounds_toArray, List.set_cons_succ, List.set_cons_zero])
        refine wpAnyH_take (i := 15) (v := ?_) rfl (by kernel_rfl) (by kernel_rfl) (by kernel_rfl) (fun _ _ _ h => h) (Or.inl ⟨by rfl, ?_⟩) hHeld ?_
        rotate_left
        · (intro wx hSx; obtain ⟨⟨q0, q1⟩, c0⟩ : (_ ∧ _) ∧ _ := ⟨hSx.1.cells, HC0.out _ hSx.2⟩; go_simp; (try with_reducible rfl))
        (try simp only [Act.put, List.getElem_toArray, List.getElem_cons_succ, List.getElem_cons_zero, List.setIfInBounds_toArray, List.set_cons_succ, List.set_cons_zero])
        refine wpAnyH_take (i := 16) (v := ?_) rfl (by kernel_rfl) (by kernel_rfl) (by kernel_rfl) (fun _ _ _ h => h) (Or.inl ⟨by rfl, ?_⟩) hHeld ?_
        rotate_left
        · (intro wx hSx; obtain ⟨⟨q0, q1⟩, c0⟩ : (_ ∧ _) ∧ _ := ⟨hSx.1.cells, HC0.out _ hSx.2⟩; go_simp; (try with_reducible rfl))
        (try simp only [Act.put, List.getElem_toArray, List.getElem_cons_succ, List.getElem_cons_zero, List.setIfInBounds_toArray, List.set_cons_succ, List.set_cons_zero])
        refine wpAnyH_take (i := 17) (v := ?_) rfl (by kernel_rfl) (by kernel_rfl) (by kernel_rfl) (fun _ _ _ h => h) (Or.inl ⟨by rfl, ?_⟩) hHeld ?_
        rotate_left
        · (intro wx hSx; obtain ⟨⟨q0, q1⟩, c0⟩ : (_ ∧ _) ∧ _ := ⟨hSx.1.cells, HC0.out _ hSx.2⟩; go_simp; (try with_reducible rfl))
        (try simp only [Act.put, List.getElem_toArray, List.getElem_cons_succ, List.getElem_cons_zero, List.setIfInBounds_toArray, List.set_cons_succ, List.set_cons_zero])
        refine wpAnyH_take (i := 18) (v := ?_) rfl (by kernel_rfl) (by kernel_rfl) (by kernel_rfl) (fun _ _ _ h => h) (Or.inl ⟨by rfl, ?_⟩) hHeld ?_
        rotate_left
        · (intro wx hSx; obtain ⟨⟨q0, q1⟩, c0⟩ : (_ ∧ _) ∧ _ := ⟨hSx.1.cells, HC0.out _ hSx.2⟩; go_simp; (try with_reducible rfl))
        (try simp only [Act.put, List.getElem_toArray, List.getElem_cons_succ, List.getElem_cons_zero, List.setIfInBounds_toArray, List.set_cons_succ, List.set_cons_zero])
        refine wpAnyH_done (by kernel_rfl) ?_ _
        clear hHeld
        go_wp2
        go_ret
        exact ⟨by rw [HV.out]; rfl, HH.out.2⟩
  · rw [decide_eq_false hok] at HIS
    rw [if_neg hok] at HRD
    have hS0 := HH.out
    clear hok
    go_enter Try.func52, Try.ntmps52
    go_wp2
    refine wp_region_held_drew (S := HeldB w nx (.slice A l.length cap)) (by kernel_rfl) hS0 (fun hHeld => ?_)
    refine wpAnyH_take (i := 0) (v := ?_) rfl (by kernel_rfl) (by kernel_rfl) (by kernel_rfl) (fun _ _ _ h => h) (Or.inl ⟨by rfl, ?_⟩) hHeld ?_
    rotate_left
    · (intro wx hSx; obtain ⟨⟨q0, q1⟩, _⟩ : (_ ∧ _) ∧ True := ⟨hSx.1.cells, trivial⟩; go_simp; (try with_reducible rfl))
    (try simp only [Act.put, List.getElem_toArray, List.getElem_cons_zero, List.setIfInBounds_toArray, List.set_cons_succ, List.set_cons_zero])
    refine wpAnyH_ready (rs := [1]) (by kernel_rfl) (by simp) ?_
    refine AllReadyH.cons rfl (fun K hK => ?_) AllReadyH.nil
    rw [if_pos (by rfl)]
    go_simp
    refine (HIS.out _ (Nat.le_trans hB HH.out.2.size) (HR.out.below hB HH.out.2)).mono ?_
    rintro e w1 ⟨rfl, hb1⟩
    have HH := Lib.hid (HH.out.next hb1)
    (try simp only [])
    refine hK.out _ _ HH.out (fun hHeld => ?_)
    clear hb1
    clear hK K
    (try simp only [Act.put, List.getElem_toArray, List.getElem_cons_succ, List.getElem_cons_zero, List.setIfInBounds_toArray, List.set_cons_succ, List.set_cons_zero])
    refine wpAnyH_take (i := 2) (v := ?_) rfl (by kernel_rfl) (by kernel_rfl) (by kernel_rfl) (fun _ _ _ h => h) (Or.inl ⟨by rfl, ?_⟩) hHeld ?_
    rotate_left
    · (intro wx hSx; obtain ⟨⟨q0, q1⟩, _⟩ : (_ ∧ _) ∧ True := ⟨hSx.1.cells, trivial⟩; go_simp; (try with_reducible rfl))
    (try simp only [Act.put, List.getElem_toArray, List.getElem_cons_succ, List.getElem_cons_zero, List.setIfInBounds_toArray, List.set_cons_succ, List.set_cons_zero])
    refine wpAnyH_take (i := 3) (v := ?_) rfl (by kernel_rfl) (by kernel_rfl) (by kernel_rfl) (fun _ _ _ h => h) (Or.inl ⟨by rfl, ?_⟩) hHeld ?_
    rotate_left
    · (intro wx hSx; obtain ⟨⟨q0, q1⟩, _⟩ : (_ ∧ _) ∧ True := ⟨hSx.1.cells, trivial⟩; go_simp; (try with_reducible rfl))
    (try simp only [Act.put, List.getElem_toArray, List.getElem_cons_succ, List.getElem_cons_zero, List.setIfInBounds_toArray, List.set_cons_succ, List.set_cons_zero])
    refine wpAnyH_take (i := 4) (v := undef) rfl (by kernel_rfl) (by kernel_rfl) (by kernel_rfl) (fun _ _ _ h => h) (Or.inr ⟨by rfl, rfl⟩) hHeld ?_
    (try simp only [Act.put, List.getElem_toArray, List.getElem_cons_succ, List.getElem_cons_zero, List.setIfInBounds_toArray, List.set_cons_succ, List.set_cons_zero])
    refine wpAnyH_take (i := 5) (v := undef) rfl (by kernel_rfl) (by kernel_rfl) (by kernel_rfl) (fun _ _ _ h => h) (Or.inr ⟨by rfl, rfl⟩) hHeld ?_
    (try simp only [Act.put, List.getElem_toArray, List.getElem_cons_succ, List.getElem_cons_zero, List.setIfInBounds_toArray, List.set_cons_succ, List.set_cons_zero])
    refine wpAnyH_take (i := 6) (v := undef) rfl (by kernel_rfl) (by kernel_rfl) (by kernel_rfl) (fun _ _ _ h => h) (Or.inr ⟨by rfl, rfl⟩) hHeld ?_
    (try simp only [Act.put, List.getElem_toArray, List.getElem_cons_succ, List.getElem_cons_zero, List.setIfInBounds_toArray, List.set_cons_succ, List.set_cons_zero])
    refine wpAnyH_take (i := 7) (v := undef) rfl (by kernel_rfl) (by kernel_rfl) (by kernel_rfl) (fun _ _ _ h => h) (Or.inr ⟨by rfl, rfl⟩) hHeld ?_
    (try simp only [Act.put, List.getElem_toArray, List.getElem_cons_succ, List.getElem_cons_zero, List.setIfInBounds_toArray, List.set_cons_succ, List.set_cons_zero])
    refine wpAnyH_take (i := 8) (v := ?_) rfl (by kernel_rfl) (by kernel_rfl) (by kernel_rfl) (fun _ _ _ h => h) (Or.inl ⟨by rfl, ?_⟩) hHeld ?_
    rotate_left
    · (intro wx hSx; obtain ⟨⟨q0, q1⟩, _⟩ : (_ ∧ _) ∧ True := ⟨hSx.1.cells, trivial⟩; go_simp; (try with_reducible rfl))
    (try simp only [Act.put, List.getElem_toArray, List.getElem_cons_succ, List.getElem_cons_zero, List.setIfInBounds_toArray, List.set_cons_succ, List.set_cons_zero])
    refine wpAnyH_take (i := 9) (v := ?_) rfl (by kernel_rfl) (by kernel_rfl) (by kernel_rfl) (fun _ _ _ h => h) (Or.inl ⟨by rfl, ?_⟩) hHeld ?_
    rotate_left
    · (intro wx hSx; obtain ⟨⟨q0, q1⟩, _⟩ : (_ ∧ _) ∧ True := ⟨hSx.1.cells, trivial⟩; go_simp; (try with_reducible rfl))
    (try simp only [Act.put, List.getElem_toArray, List.getElem_cons_succ, List.getElem_cons_zero, List.setIfInBounds_toArray, List.set_cons_succ, List.set_cons_zero])
    refine wpAnyH_take (i := 10) (v := undef) rfl (by kernel_rfl) (by kernel_rfl) (by kernel_rfl) (fun _ _ _ h => h) (Or.inr ⟨by rfl, rfl⟩) hHeld ?_
    (try simp only [Act.put, List.getElem_toArray, List.getElem_cons_succ, List.getElem_cons_zero, List.setIfInBounds_toArray, List.set_cons_succ, List.set_cons_zero])
    refine wpAnyH_take (i := 11) (v := undef) rfl (by kernel_rfl) (by kernel_rfl) (by kernel_rfl) (fun _ _ _ h => h) (Or.inr ⟨by rfl, rfl⟩) hHeld ?_
    (try simp only [Act.put, List.getElem_toArray, List.getElem_cons_succ, List.getElem_cons_zero, List.setIfInBounds_toArray, List.set_cons_succ, List.set_cons_zero])
    refine wpAnyH_take (i := 12) (v := undef) rfl (by kernel_rfl) (by kernel_rfl) (by kernel_rfl) (fun _ _ _ h => h) (Or.inr ⟨by rfl, rfl⟩) hHeld ?_
    (try simp only [Act.put, List.getElem_toArray, List.getElem_cons_succ, List.getElem_cons_zero, List.setIfInBounds_toArray, List.set_cons_succ, List.set_cons_zero])
    refine wpAnyH_take (i := 13) (v := undef) rfl (by kernel_rfl) (by kernel_rfl) (by kernel_rfl) (fun _ _ _ h => h) (Or.inr ⟨by rfl, rfl⟩) hHeld ?_
    (try simp only [Act.put, List.getElem_toArray, List.getElem_cons_succ, List.getElem_cons_zero, List.setIfInBounds_toArray, List.set_cons_succ, List.set_cons_zero])
    refine wpAnyH_take (i := 14) (v := undef) rfl (by kernel_rfl) (by kernel_rfl) (by kernel_rfl) (fun _ _ _ h => h) (Or.inr ⟨by rfl, rfl⟩) hHeld ?_
    (try simp only [Act.put, List.getElem_toArray, List.getElem_cons_succ, List.getElem_cons_zero, List.setIfInBounds_toArray, List.set_cons_succ, List.set_cons_zero])
    refine wpAnyH_take (i := 15) (v := undef) rfl (by kernel_rfl) (by kernel_rfl) (by kernel_rfl) (fun _ _ _ h => h) (Or.inr ⟨by rfl, rfl⟩) hHeld ?_
    (try simp only [Act.put, List.getElem_toArray, List.getElem_cons_succ, List.getElem_cons_zero, List.setIfInBounds_toArray, List.set_cons_succ, List.set_cons_zero])
    refine wpAnyH_take (i := 16) (v := undef) rfl (by kernel_rfl) (by kernel_rfl) (by kernel_rfl) (fun _ _ _ h => h) (Or.inr ⟨by rfl, rfl⟩) hHeld ?_
    (try simp only [Act.put, List.getElem_toArray, List.getElem_cons_succ, List.getElem_cons_zero, List.setIfInBounds_toArray, List.set_cons_succ, List.set_cons_zero])
    refine wpAnyH_take (i := 17) (v := undef) rfl (by kernel_rfl) (by kernel_rfl) (by kernel_rfl) (fun _ _ _ h => h) (Or.inr ⟨by rfl, rfl⟩) hHeld ?_
    (try simp only [Act.put, List.getElem_toArray, List.getElem_cons_succ, List.getElem_cons_zero, List.setIfInBounds_toArray, List.set_cons_succ, List.set_cons_zero])
    refine wpAnyH_take (i := 18) (v := ?_) rfl (by kernel_rfl) (by kernel_rfl) (by kernel_rfl) (fun _ _ _ h => h) (Or.inl ⟨by rfl, ?_⟩) hHeld ?_
    rotate_left
    · (intro wx hSx; obtain ⟨⟨q0, q1⟩, _⟩ : (_ ∧ _) ∧ True := ⟨hSx.1.cells, trivial⟩; go_simp; (try with_reducible rfl))
    (try simp only [Act.put, List.getElem_toArray, List.getElem_cons_succ, List.getElem_cons_zero, List.setIfInBounds_toArray, List.set_cons_succ, List.set_cons_zero])
    refine wpAnyH_done (by kernel_rfl) ?_ _
    clear hHeld
    go_wp2
    go_ret
    exact ⟨by rw [HRD.out]; rfl, HH.out.2⟩
end Go.Proofs.Ytmmoedhfeaokgaa

namespace Go.Proofs.Ytmmoedhfeaokgaa
open Go.RowKit Go.Deep Go.Proofs.Ytmmoedhfeaokgaa.Num

namespace Num
theorem endB_bad {b : Bf} (h : ¬ okB b) : endB b = b.next := by unfold endB; rw [if_neg h]
theorem endB_nil {b : Bf} (h : b.chs = []) : endB b = b.next := by
  unfold endB
  split
  · rw [h]; rfl
  · rfl
theorem endB_last {b : Bf} (h : okB b) (h0 : 0 < b.chs.length) : endB b = b.chs[b.chs.length - 1].off + b.chs[b.chs.length - 1].data.size := by
  unfold endB
  rw [if_pos h, List.getLast?_eq_getElem?, List.getElem?_eq_getElem (by omega)]
end Num
set_option maxRecDepth 100000 in
set_option maxHeartbeats 1000000 in
/-- spec.EndOf -/
theorem sendof (b : Bf) (A : Option Addr) (cap B : Nat) (w : World) (hB : B ≤ w.heap.size) (hr : Chs w B A b.chs) (hn : b.chs.length ≤ 1000000000) (hi : inB b.chs) (hnx : -9223372036854775808 ≤ b.next ∧ b.next ≤ 9223372036854775807) :
    Calls Try.prog 51 #[bfV b.next (.slice A b.chs.length cap)] w fun e w' => e = .returned (.int .i64 (endB b)) ∧ Below w.heap.size w w' := by
  have HR := Lib.hid hr
  have HIS : Hid (∀ W, B ≤ W.heap.size → Chs W B A b.chs → Calls Try.prog 50 #[bfV b.next (.slice A b.chs.length cap)] W fun e w' => e = .returned (.bool (decide (okB b))) ∧ Below W.heap.size W w') := Lib.hid fun W h1 h2 => sisb b A cap B W h1 h2 hn hi hnx
  have H0 := Lib.hid (HeldB.start w b.next (.slice A b.chs.length cap))
  obtain ⟨q0, q1⟩ := H0.out.1.cells
  by_cases h0 : b.chs.length = 0
  · have HV := Lib.hid (endB_nil (b := b) (List.eq_nil_of_length_eq_zero h0))
    have hz : ((b.chs.length : Int) == 0) = true := by rw [h0]; rfl
    clear h0 hr hi hnx
    go_enter Try.func51, Try.ntmps51
    go_wp2
    go_ret
    exact ⟨by rw [HV.out]; rfl, H0.out.2⟩
  · have hz : ((b.chs.length : Int) == 0) = false := by simpa using h0
    by_cases hok : okB b
    · have HV := Lib.hid (endB_last hok (by omega))
      have hlt : b.chs.length - 1 < b.chs.length := by omega
      have hbd := (okR.below hok.1 (ckR b.chs[b.chs.length - 1]) (List.mem_map_of_mem (List.getElem_mem hlt)))
      have hbn : 0 ≤ b.next := hok.2.1
      obtain ⟨g, off, hA, hbB, c0, c1⟩ := HR.out.cells (b.chs.length - 1) hlt
      rw [decide_eq_true hok] at HIS
      obtain ⟨k, hk⟩ : ∃ k, b.chs.length - 1 = k := ⟨_, rfl⟩
      have hw : (b.chs.length : Int) - 1 = (k : Int) := by omega
      have hklt : k < b.chs.length := by omega
      simp only [hk] at c0 c1 HV hbd
      generalize b.chs[k] = c at *
      have hwe : c.off + (c.data.size : Int) ≤ 4611686018427387903 ∧ 0 ≤ c.off := by have h1 := hbd.1; have h2 := hbd.2.2; simp only [ckR] at h1 h2; omega
      have HWE := Lib.hid (show wrap64 (c.off + (c.data.size : Int)) = c.off + (c.data.size : Int) by clear hw; unfold wrap64; omega)
      subst hA
      have HC0 : Hid (∀ W, Below w.heap.size w W → W.cell? ⟨g, off + k * 2, none⟩ = some (.int .i64 c.off) ∧ W.cell? ⟨g, off + k * 2 + 1, none⟩ = some (.string c.data)) := Lib.hid fun W h => ⟨(h.cell (p := ⟨g, off + k * 2, none⟩) (by show g < _; omega)).trans c0, (h.cell (p := ⟨g, off + k * 2 + 1, none⟩) (by show g < _; omega)).trans c1⟩
      clear hok h0 hr hi hnx hbd hwe hbn c0 c1 hlt hk
      go_enter Try.func51, Try.ntmps51
      go_wp2_with fail
      refine (HIS.out _ (Nat.le_trans hB H0.out.2.size) (HR.out.below hB H0.out.2)).mono ?_
      rintro e w1 ⟨rfl, hb1⟩
      have H1 := Lib.hid (H0.out.next hb1)
      clear hb1 q0 q1
      obtain ⟨q0, q1⟩ := H1.out.1.cells
      obtain ⟨c0, c1⟩ := HC0.out w1 H1.out.2
      have H2 := Lib.hid (H1.out.alloc (.cells (chC c) 93))
      go_upto_region 4 with fail
      clear hw
      have hwe := HWE.out
      go_wp2
      go_ret
      exact ⟨by rw [HV.out]; first | rfl | exact congrArg (fun z => Ending.returned (.int .i64 z)) HWE.out, H2.out.2⟩
    · have HV := Lib.hid (endB_bad hok)
      rw [decide_eq_false hok] at HIS
      clear hok h0 hr hi hnx
      go_enter Try.func51, Try.ntmps51
      go_wp2_with fail
      refine (HIS.out _ (Nat.le_trans hB H0.out.2.size) (HR.out.below hB H0.out.2)).mono ?_
      rintro e w1 ⟨rfl, hb1⟩
      have H1 := Lib.hid (H0.out.next hb1)
      clear hb1 q0 q1
      obtain ⟨q0, q1⟩ := H1.out.1.cells
      go_wp2
      go_ret
      exact ⟨by rw [HV.out]; rfl, H1.out.2⟩

theorem eqC_no (u f : Ch) (h : u ≠ f) (w : World) : (Op.equalIn 10000 93 (chV u) (chV f)).run Try.prog w = .ok false w := by
  rw [show (10000 : Nat) = 9999 + 1 from rfl, run_equalIn_agg w 9999 93 _ _ (by kernel_rfl) (by kernel_rfl)]
  simp only [Program.fieldsOf, Try.underlying93]
  go_simp
  intro h0 h1
  exact h (Ch.ext' h0 (ByteArray.ext (Array.toList_inj.mp (by rw [← ByteArray.toList_eq, ← ByteArray.toList_eq, h1]))))
theorem eqC_yes (f : Ch) (w : World) : (Op.equalIn 10000 93 (chV f) (chV f)).run Try.prog w = .ok true w := by
  rw [show (10000 : Nat) = 9999 + 1 from rfl, run_equalIn_agg w 9999 93 _ _ (by kernel_rfl) (by kernel_rfl)]
  simp only [Program.fieldsOf, Try.underlying93]
  go_simp
/-- Two buffers, held. -/
def HeldB2 (w : World) (n : Int) (v : Value) (m : Int) (u : Value) (W : World) : Prop := BoxB W w.heap.size n v ∧ BoxB W (w.heap.size + 1) m u ∧ Below w.heap.size w W
theorem HeldB2.start (w : World) (n : Int) (v : Value) (m : Int) (u : Value) : HeldB2 w n v m u ((w.alloc (.cells #[.int .i64 n, v] 26)).alloc (.cells #[.int .i64 m, u] 26)) := by
  refine ⟨(BoxB.new w n v).alloc _, ?_, ((Below.refl _ _).alloc (Nat.le_refl _) _).alloc (by simp) _⟩
  have h := BoxB.new (w.alloc (.cells #[.int .i64 n, v] 26)) m u
  rwa [show (w.alloc (.cells #[.int .i64 n, v] 26)).heap.size = w.heap.size + 1 by simp] at h
theorem belowB_drewN {B : Nat} {a w : World} (h : Below B a w) (n : Nat) : Below B a (w.drewN n) := ⟨h.os, h.tape, h.output, h.size, h.block⟩
theorem HeldB2.drewN {w W : World} {n m : Int} {v u : Value} (h : HeldB2 w n v m u W) (k : Nat) : HeldB2 w n v m u (W.drewN k) := ⟨h.1, h.2.1, belowB_drewN h.2.2 k⟩
set_option maxRecDepth 100000 in
set_option maxHeartbeats 1000000 in
/-- spec.EqualBuffers -/
theorem sequal (n m : Int) (l r : List Ch) (A A' : Option Addr) (cap cap' B : Nat) (w : World) (hB : B ≤ w.heap.size) (hr : Chs w B A l) (hr' : Chs w B A' r) (hn : l.length ≤ 1000000000) :
    Calls Try.prog 49 #[bfV n (.slice A l.length cap), bfV m (.slice A' r.length cap')] w fun e w' => e = .returned (.bool (decide (n = m ∧ l = r))) ∧ Below w.heap.size w w' := by
  have HR := Lib.hid hr
  have HR' := Lib.hid hr'
  have H0 := Lib.hid (HeldB2.start w n (.slice A l.length cap) m (.slice A' r.length cap'))
  clear hr hr'
  by_cases h1 : n = m
  · have hd1 : (n != m) = false := by rw [h1]; simp
    by_cases h2 : l.length = r.length
    · have hd2 : ((l.length : Int) != (r.length : Int)) = false := by rw [h2]; simp
      have HV : Hid (decide (n = m ∧ l = r) = decide (l = r)) := Lib.hid (decide_eq_decide.2 ⟨fun h => h.2, fun h => ⟨h1, h⟩⟩)
      have HLR := Lib.hid h2
      clear h1 h2
      go_enter Try.func49, Try.ntmps49
      go_wp2
      go_loopw [5] (fun i wr => ∃ j : Nat, j ≤ l.length ∧ i = .int .i64 j ∧ l.take j = r.take j ∧ HeldB2 w n (.slice A l.length cap) m (.slice A' r.length cap') wr) (fun i _ => l.length - (intOf i).toNat)
      case atStart => exact ⟨0, Nat.zero_le _, rfl, rfl, H0.out⟩
      case round =>
        obtain ⟨j, hj, rfl, ht, hh⟩ := hrel
        have HT := Lib.hid ht
        have HH := Lib.hid hh
        clear ht hh H0
        obtain ⟨q0, q1⟩ := HH.out.1.cells
        obtain ⟨p0, p1⟩ := HH.out.2.1.cells
        by_cases hlt : j < l.length
        · have hlr : j < r.length := by have := HLR.out; omega
          obtain ⟨g, off, rfl, hbB, c0, c1⟩ := (HR.out.below hB HH.out.2.2).cells j hlt
          obtain ⟨g', off', rfl, hbB', d0, d1⟩ := (HR'.out.below hB HH.out.2.2).cells j hlr
          have HTS : Hid (l.take (j + 1) = l.take j ++ [l[j]] ∧ r.take (j + 1) = r.take j ++ [r[j]]) := Lib.hid ⟨List.take_succ_eq_append_getElem hlt, List.take_succ_eq_append_getElem hlr⟩
          by_cases he : l[j] = r[j]
          · have HT2 : Hid (l.take (j + 1) = r.take (j + 1)) := Lib.hid (by rw [HTS.out.1, HTS.out.2, HT.out, he])
            rw [← he] at d0 d1
            generalize l[j] = x at *
            have hq : ∀ W, (Op.equalIn 10000 93 (chV x) (chV x)).run Try.prog W = .ok true W := fun W => eqC_yes x W
            clear he HTS
            go_wp2
            go_quiet (fail)
            go_wp2
            go_roundw
            case rel => exact ⟨j + 1, hlt, by go_num, HT2.out, HH.out.drewN _⟩
            case measure => simp [intOf]; omega
          · have HN : Hid (¬ l = r) := Lib.hid (fun h => he (by subst h; rfl))
            have hq : ∀ W, (Op.equalIn 10000 93 (chV l[j]) (chV r[j])).run Try.prog W = .ok false W := fun W => eqC_no _ _ he W
            generalize l[j] = x at *
            generalize r[j] = y at *
            clear he HTS
            go_wp2
            go_quiet (fail)
            go_wp2
            go_ret
            exact ⟨by rw [HV.out, decide_eq_false HN.out]; rfl, belowB_drewN HH.out.2.2 _⟩
        · obtain rfl : j = l.length := by omega
          have HE : Hid (l = r) := Lib.hid (by
            have h := HT.out
            rwa [List.take_length, HLR.out, List.take_length] at h)
          go_wp2
          go_ret
          exact ⟨by rw [HV.out, decide_eq_true HE.out]; rfl, HH.out.2.2⟩
    · have hd2 : ((l.length : Int) != (r.length : Int)) = true := by rw [bne_iff_ne]; omega
      have HV : Hid (decide (n = m ∧ l = r) = false) := Lib.hid (decide_eq_false fun h => h2 (by rw [h.2]))
      clear h1 h2
      obtain ⟨q0, q1⟩ := H0.out.1.cells
      obtain ⟨p0, p1⟩ := H0.out.2.1.cells
      go_enter Try.func49, Try.ntmps49
      go_wp2
      go_ret
      exact ⟨by rw [HV.out]; rfl, H0.out.2.2⟩
  · have hd1 : (n != m) = true := by rw [bne_iff_ne]; exact h1
    have HV : Hid (decide (n = m ∧ l = r) = false) := Lib.hid (decide_eq_false fun h => h1 h.1)
    clear h1
    obtain ⟨q0, q1⟩ := H0.out.1.cells
    obtain ⟨p0, p1⟩ := H0.out.2.1.cells
    go_enter Try.func49, Try.ntmps49
    go_wp2
    go_ret
    exact ⟨by rw [HV.out]; rfl, H0.out.2.2⟩
end Go.Proofs.Ytmmoedhfeaokgaa
