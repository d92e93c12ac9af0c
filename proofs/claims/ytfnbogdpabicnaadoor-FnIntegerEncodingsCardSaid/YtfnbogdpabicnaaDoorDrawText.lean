/-
  What the drawing functions spec.l1New and l1Text return: a cursor in a new block, and a string of at most so many bytes.
-/
import Derived.Test.YtfnbogdpabicnaaDoorDrawNum
namespace Go.Proofs.YtfnbogdpabicnaaDoor
open Go.RowKit Go.Deep Go.Proofs.YtfnbogdpabicnaaDoor.Num

/-- A cursor in a new block comes back. -/
def NewP (A : Option Addr) (len cap : Nat) (w : World) (e : Ending) (w' : World) : Prop :=
  ∃ g : Nat, e = .returned (.pointer (some ⟨g, 0, none⟩)) ∧ w.heap.size ≤ g ∧ Draw w' g w.heap.size A len cap ∧ Below w.heap.size w w'

set_option maxRecDepth 100000 in
set_option maxHeartbeats 800000 in
/-- spec.l1New -/
theorem dnew (A : Option Addr) (len cap : Nat) (w : World) (hlen : len ≤ maxLen) (hcode : Code w w.heap.size A len) :
    Calls Tryd.prog 21 #[.slice A len cap] w (NewP A len cap w) := by
  have HC := Lib.hid hcode
  have HL := Lib.hid hlen
  clear hcode
  unfold maxLen at hlen
  go_enter Tryd.func21, Tryd.ntmps21
  go_wp2
  go_loop [3, 4] (fun h i => ∃ (k : Nat) (x : Int), k ≤ len ∧ k ≤ 4000 ∧ i = .int .i64 k ∧ h = .int .i64 x) (fun _ i => 4000 - (intOf i).toNat)
  case atStart => exact ⟨0, _, by omega, by omega, rfl, rfl⟩
  case round =>
    obtain ⟨k, x, hk, hk4, rfl, rfl⟩ := hrel
    by_cases hlt : k < len ∧ k < 4000
    · obtain ⟨hl, hl4⟩ := hlt
      obtain ⟨b, off, n, rfl, hb, n0, n1, hc⟩ := HC.out k hl
      go_wp2
      refine ⟨⟨k + 1, _, by omega, by omega, by go_num, rfl⟩, ?_⟩
      simp [intOf]
      omega
    · go_wp2
      all_goals go_ret
      all_goals exact ⟨w.heap.size, rfl, Nat.le_refl _, ⟨Nat.le_refl _, HL.out, HC.out.keep (fun k hk => Below.heap_alloc w _ k hk), 0, x, Nat.zero_le _, heap_alloc_new w _⟩, (Below.refl _ _).alloc (Nat.le_refl _) _⟩

theorem only_then {a b c : World} {g : Nat} (h : a.grownBy b (some g)) (k : Below a.heap.size b c) : a.grownBy c (some g) :=
  ⟨k.os.trans h.os, k.tape.trans h.tape, k.output.trans h.output, Nat.le_trans h.size k.size, fun i hi hne => (k.block i hi).trans (h.block i hi hne)⟩
theorem OwnB.only {w w' : World} {base g : Nat} {v : Value} {l : List UInt8} (h : OwnB w base v l) (hg : w.grownBy w' (some g)) (hb : g < base) : OwnB w' base v l :=
  World.ownsRow.kept h hg (by
    cases hv : v.ownBlock with
    | none => exact .inl rfl
    | some k =>
      refine .inr (fun e => ?_)
      have := (World.ownsRow.lt h k hv).1
      have := Option.some.inj e
      omega)
theorem cell_int (W : World) (x : Int) (h0 : 0 ≤ x) (h1 : x ≤ 255) : ∀ j (hj : j < [UInt8.ofNat x.toNat].length), (W.alloc (.cells #[.int .u8 x] 5)).cell? ⟨W.heap.size, j, none⟩ = some (.int .u8 ([UInt8.ofNat x.toNat][j].toNat : Int)) := by
  intro j hj
  obtain rfl : j = 0 := by rw [List.length_singleton] at hj; omega
  obtain ⟨n, rfl⟩ := Int.eq_ofNat_of_zero_le h0
  have e : (UInt8.ofNat n).toNat = n := by rw [UInt8.toNat_ofNat']; omega
  rw [World.cell?_alloc_at _ _ _ _ rfl, List.getElem_singleton, Int.toNat_natCast, e]
  rfl

/-- A string of at most 'most' bytes comes back; of what was there only the cursor has changed. -/
def TextP (most : Nat) (g B : Nat) (A : Option Addr) (len cap : Nat) (w : World) (e : Ending) (w' : World) : Prop :=
  ∃ l : List UInt8, e = .returned (.string ⟨l.toArray⟩) ∧ l.length ≤ most ∧ Draw w' g B A len cap ∧ w.grownBy w' (some g)

set_option maxRecDepth 100000 in
set_option maxHeartbeats 1600000 in
/-- spec.l1Text -/
theorem dtext (most : Nat) (hm : most ≤ 100000) (g B : Nat) (A : Option Addr) (len cap : Nat) (w : World) (d : Draw w g B A len cap) :
    Calls Tryd.prog 23 #[.pointer (some ⟨g, 0, none⟩), .int .i64 (most : Int)] w (TextP most g B A len cap w) := by
  have hlt := d.lt
  have D := Lib.hid d
  clear d
  go_enter Tryd.func23, Tryd.ntmps23
  go_wp2_with fail
  refine (dbelow 4 (by decide) (by decide) g B A len cap _ (D.out.alloc _)).mono ?_
  rintro e w1 ⟨st, rfl, s0, s1, d1, g1⟩
  have D1 := Lib.hid d1
  have G1 := Lib.hid (only_trans (only_alloc (World.grownBy.refl w (some g)) _) g1)
  have O1 := Lib.hid (OwnB.only (OwnB.lit w w.heap.size 0 #[] (Nat.le_refl _) (by decide) rfl) g1 hlt)
  clear d1 g1
  go_wp2_with fail
  refine (dbelow ((most : Int) + 1) (by omega) (by omega) g B A len cap _ D1.out).mono ?_
  rintro e w2 ⟨n, rfl, n0, n1, d2, g2⟩
  have D2 := Lib.hid d2
  have O2 := Lib.hid (O1.out.only g2 hlt)
  have G2 := Lib.hid (only_trans G1.out g2)
  clear d2 g2
  obtain ⟨m, rfl⟩ := Int.eq_ofNat_of_zero_le n0
  go_wp2_with fail
  go_loopw [5, 7] (fun v x wr => ∃ (k : Nat) (l : List UInt8), x = .int .i64 k ∧ l.length + k ≤ most ∧ OwnB wr w.heap.size v l ∧ Draw wr g B A len cap ∧ w.grownBy wr (some g)) (fun _ x _ => (intOf x).toNat)
  case atStart => exact ⟨m, [], rfl, by simp; omega, O2.out, D2.out, G2.out⟩
  case round =>
    obtain ⟨k, l, rfl, hk, hown, hd, hg⟩ := hrel
    have HO := Lib.hid hown
    have HD := Lib.hid hd
    have HG := Lib.hid hg
    have hsz : w.heap.size ≤ wr.heap.size := hg.size
    clear hown hd hg
    by_cases hz : 0 < k
    · go_wp2_with fail
      refine (dbyte g B A len cap _ HD.out).mono ?_
      rintro e w3 ⟨x, rfl, x0, x1, d3, g3⟩
      have D3 := Lib.hid d3
      have O3 := Lib.hid (HO.out.only g3 hlt)
      have G3 := Lib.hid (only_trans HG.out g3)
      have hs3 : w.heap.size ≤ w3.heap.size := G3.out.size
      clear d3 g3
      by_cases e1 : st = 1
      · have q1 : (st == 1) = true := by simpa using e1
        have q2 : (st == 2) = false := by simp; omega
        clear e1
        go_wp2_with (at_builtin; refine wpList_append_bytes _ rfl (.tmp 31) (.tmp 34) rfl w.heap.size _ l rfl (O3.out.alloc _) w3.heap.size 1 1 [UInt8.ofNat (x % 2).toNat] rfl rfl (cell_int w3 (x % 2) (by omega) (by omega)) (by omega) (by simp; omega) ?_; intro v' w' hown' hbel)
        have hB : Below w.heap.size w3 w' := ((Below.refl _ _).alloc hs3 _).trans hbel
        refine ⟨⟨k - 1, l ++ [UInt8.ofNat (x % 2).toNat], by congr 1; omega, by simp; omega, hown', D3.out.below hlt hB, only_then G3.out hB⟩, ?_⟩
        simp [intOf]
        omega
      · have q1 : (st == 1) = false := by simpa using e1
        by_cases e2 : st = 2
        · have q2 : (st == 2) = true := by simpa using e2
          clear e1 e2
          go_wp2_with (at_builtin; refine wpList_append_bytes _ rfl (.tmp 31) (.tmp 34) rfl w.heap.size _ l rfl (O3.out.alloc _) w3.heap.size 1 1 [UInt8.ofNat (97 + x % 4).toNat] rfl rfl (cell_int w3 (97 + x % 4) (by omega) (by omega)) (by omega) (by simp; omega) ?_; intro v' w' hown' hbel)
          have hB : Below w.heap.size w3 w' := ((Below.refl _ _).alloc hs3 _).trans hbel
          refine ⟨⟨k - 1, l ++ [UInt8.ofNat (97 + x % 4).toNat], by congr 1; omega, by simp; omega, hown', D3.out.below hlt hB, only_then G3.out hB⟩, ?_⟩
          simp [intOf]
          omega
        · have q2 : (st == 2) = false := by simpa using e2
          clear e1 e2
          go_wp2_with (at_builtin; refine wpList_append_bytes _ rfl (.tmp 31) (.tmp 34) rfl w.heap.size _ l rfl (O3.out.alloc _) w3.heap.size 1 1 [UInt8.ofNat (x).toNat] rfl rfl (cell_int w3 (x) (by omega) (by omega)) (by omega) (by simp; omega) ?_; intro v' w' hown' hbel)
          have hB : Below w.heap.size w3 w' := ((Below.refl _ _).alloc hs3 _).trans hbel
          refine ⟨⟨k - 1, l ++ [UInt8.ofNat (x).toNat], by congr 1; omega, by simp; omega, hown', D3.out.below hlt hB, only_then G3.out hB⟩, ?_⟩
          simp [intOf]
          omega
    · have HC := conv_own wr _ _ _ HO.out
      go_wp2
      go_ret
      exact ⟨l, rfl, by omega, HD.out, HG.out⟩
end Go.Proofs.YtfnbogdpabicnaaDoor
