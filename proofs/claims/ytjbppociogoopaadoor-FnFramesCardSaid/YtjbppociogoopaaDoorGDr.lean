/-
  What spec.l1Byte returns: a number from 0 to 255; it writes into its cursor alone.
  What the drawing functions spec.l1Below and l1PickInt return: numbers in their ranges; each writes into its cursor alone.
  What the drawing function spec.l1New returns: a cursor in a new block; and the forms of what other drawing functions return.
  What the drawing functions spec.l1Once, l1Pick and l4Data return.
  What the drawing function spec.l2Bytes returns: a string of at most so many bytes.
  What the drawing function spec.l1Text returns: a string of at most so many bytes.
  What the drawing function spec.l1Spoil returns: a string that is not much longer than the one it spoils.
  What the drawing functions of chapter 4 return, for whatever bytes: frames, lists of frames.
  What the drawing function spec.l4Frames returns: a list of frames; and those that take bytes.
  What the drawing functions for the law on payloads return, for whatever bytes.
  What the drawing function spec.DrawDecodePayload returns, for whatever bytes.
  What the drawing function spec.DrawDecodeFrame returns, for whatever bytes.
  What laws.markText returns: a text that hangs on the number alone.
  What laws.big returns.
  A slice of bytes that came in is bytes that can be read.
-/
import Derived.Test.YtjbppociogoopaaDoorBytes
import Derived.Deep.QuietTactic
import Derived.BigQuiet
import Derived.Test.YtjbppociogoopaaDoorSSize
import Derived.Deep.RegionHeld3
import Derived.Deep.RegionLaw
import Derived.Laws.Concat
import Derived.Test.YtjbppociogoopaaDoorSFr6
import Derived.Test.YtjbppociogoopaaDoorSFr2
import Derived.Test.YtjbppociogoopaaDoorFrs
import Derived.Test.YtjbppociogoopaaDoorSFr9
import Derived.Test.YtjbppociogoopaaDoorKit
import Derived.Laws.Rows
namespace Go.Proofs.YtjbppociogoopaaDoor
open Go.RowKit Go.Deep Go.Proofs.YtjbppociogoopaaDoor.Num

/-- Block g is the cursor over the slice A of len bytes, at place i. -/
def Cur (w : World) (g : Nat) (A : Option Addr) (len cap i : Nat) (h : Int) : Prop := w.heap[g]? = some (.cells #[.slice A len cap, .int .i64 (i : Int), .int .i64 h] 95 (0, 0))
theorem Cur.lt {w : World} {g : Nat} {A : Option Addr} {len cap i : Nat} {h : Int} (c : Cur w g A len cap i h) : g < w.heap.size := (Array.getElem?_eq_some_iff.1 c).1
theorem Cur.cell {w : World} {g : Nat} {A : Option Addr} {len cap i : Nat} {h : Int} (c : Cur w g A len cap i h) (k : Nat) : w.cell? ⟨g, k, none⟩ = (#[.slice A len cap, .int .i64 (i : Int), .int .i64 h] : Array Value)[k]? := cell_of_row w g k _ _ _ c
theorem Cur.free {w : World} {g : Nat} {A : Option Addr} {len cap i : Nat} {h : Int} (c : Cur w g A len cap i h) (k : Nat) : w.frozen? ⟨g, k, none⟩ = false := by
  unfold Cur at c
  simp [World.frozen?, c]
theorem Cur.set1 {w : World} {g : Nat} {A : Option Addr} {len cap i : Nat} {h : Int} (c : Cur w g A len cap i h) (i' : Nat) : Cur (w.setCell ⟨g, 1, none⟩ (.int .i64 (i' : Int))) g A len cap i' h := by
  unfold Cur at c ⊢
  simp [World.setCell, Array.getElem?_modify, c]
theorem Cur.set2 {w : World} {g : Nat} {A : Option Addr} {len cap i : Nat} {h : Int} (c : Cur w g A len cap i h) (h' : Int) : Cur (w.setCell ⟨g, 2, none⟩ (.int .i64 h')) g A len cap i h' := by
  unfold Cur at c ⊢
  simp [World.setCell, Array.getElem?_modify, c]
theorem Cur.drewN {w : World} {g : Nat} {A : Option Addr} {len cap i : Nat} {h : Int} (c : Cur w g A len cap i h) (n : Nat) : Cur (w.drewN n) g A len cap i h := c
theorem Cur.other {w w' : World} {g : Nat} {A : Option Addr} {len cap i : Nat} {h : Int} (c : Cur w g A len cap i h) (hb : w'.heap[g]? = w.heap[g]?) : Cur w' g A len cap i h := hb.trans c
/-- Each of the bytes can be read, below block B. -/
def Code (w : World) (B : Nat) (A : Option Addr) (len : Nat) : Prop := ∀ j, j < len → ∃ b off n, A = some ⟨b, off, none⟩ ∧ b < B ∧ (0 : Int) ≤ n ∧ n ≤ 255 ∧ w.cell? ⟨b, off + j, none⟩ = some (.int .u8 n)
theorem Code.keep {w w' : World} {B : Nat} {A : Option Addr} {len : Nat} (c : Code w B A len) (h : ∀ k, k < B → w'.heap[k]? = w.heap[k]?) : Code w' B A len := by
  intro j hj
  obtain ⟨b, off, n, hA, hb, h0, h1, hc⟩ := c j hj
  exact ⟨b, off, n, hA, hb, h0, h1, (World.cell?_of_block (w := w) (h b hb)).trans hc⟩

/-- Only block g may have changed. -/
theorem only_setCell {a w : World} {g : Nat} (h : a.grownBy w (some g)) (k : Nat) (u : Value) : a.grownBy (w.setCell ⟨g, k, none⟩ u) (some g) :=
  ⟨h.os, h.tape, h.output, by simpa [World.setCell] using h.size, fun i hi hne => (Below.heap_setCell w ⟨g, k, none⟩ u i (by rintro rfl; exact hne rfl)).trans (h.block i hi hne)⟩
theorem only_drewN {a w : World} {row : Option Nat} (h : a.grownBy w row) (n : Nat) : a.grownBy (w.drewN n) row := ⟨h.os, h.tape, h.output, h.size, h.block⟩
theorem only_trans {a b c : World} {g : Nat} (h : a.grownBy b (some g)) (k : b.grownBy c (some g)) : a.grownBy c (some g) :=
  ⟨k.os.trans h.os, k.tape.trans h.tape, k.output.trans h.output, Nat.le_trans h.size k.size, fun i hi hne => (k.block i (Nat.lt_of_lt_of_le hi h.size) hne).trans (h.block i hi hne)⟩
theorem only_below {a b : World} {g B : Nat} (h : a.grownBy b (some g)) (hB : B ≤ g) (hl : B ≤ a.heap.size) : Below B a b :=
  ⟨h.os, h.tape, h.output, h.size, fun k hk => h.block k (by omega) (fun e => by have := Option.some.inj e; omega)⟩

theorem i64_and255 (n : Int) : bits .and .i64 n 255 = n % 256 := by
  have h255 : (BitVec.ofInt 64 255).toNat = 2 ^ 8 - 1 := by decide
  have key : (BitVec.ofInt 64 n &&& BitVec.ofInt 64 255).toNat = (n % ((2 ^ 64 : Nat) : Int)).toNat % 2 ^ 8 := by
    rw [BitVec.toNat_and, BitVec.toNat_ofInt, h255, Nat.and_two_pow_sub_one_eq_mod]
  show IntKind.i64.wrap ((BitVec.ofInt 64 n &&& BitVec.ofInt 64 255).toNat : Nat) = n % 256
  rw [key, IntKind.wrap_i64]
  omega

theorem mod_lo (x : Int) : 0 ≤ x % 256 := by omega
theorem mod_hi (x : Int) : x % 256 ≤ 255 := by omega

/-- A number from lo to hi comes back; the cursor over the same bytes has moved on; nothing else has changed. -/
def NumPost (lo hi : Int) (g : Nat) (A : Option Addr) (len cap : Nat) (w : World) (e : Ending) (w' : World) : Prop :=
  ∃ (x : Int) (i' : Nat) (h' : Int), e = .returned (.int .i64 x) ∧ lo ≤ x ∧ x ≤ hi ∧ i' ≤ len ∧ Cur w' g A len cap i' h' ∧ w.grownBy w' (some g)

set_option maxRecDepth 100000 in
set_option maxHeartbeats 800000 in
theorem byte_end (g len cap i : Nat) (A : Option Addr) (h : Int) (w : World) (c : Cur w g A len cap i h) (hi : i = len) :
    Calls Tryd.prog 77 #[.pointer (some ⟨g, 0, none⟩)] w (NumPost 0 255 g A len cap w) := by
  have c0 : w.cell? ⟨g, 0, none⟩ = some (.slice A len cap) := c.cell 0
  have c1 : w.cell? ⟨g, 1, none⟩ = some (.int .i64 (i : Int)) := c.cell 1
  have c2 : w.cell? ⟨g, 2, none⟩ = some (.int .i64 h) := c.cell 2
  have f1 := c.free 1
  have f2 := c.free 2
  have C := Lib.hid c
  have hi' : len ≤ i := by omega
  have hle : i ≤ len := by omega
  clear c hi
  have ha := i64_and255
  go_enter Tryd.func77, Tryd.ntmps77
  go_wp2
  go_quiet (fail)
  go_wp2
  go_quiet (fail)
  go_wp2
  go_ret
  exact ⟨_, i, _, rfl, mod_lo _, mod_hi _, hle, ((C.out.set2 _).drewN _).drewN _, only_drewN (only_drewN (only_setCell (World.grownBy.refl _ _) 2 _) _) _⟩

set_option maxRecDepth 100000 in
set_option maxHeartbeats 800000 in
theorem byte_mid (g len cap i b off : Nat) (h n : Int) (w : World) (c : Cur w g (some ⟨b, off, none⟩) len cap i h) (hi : i < len) (hlen : len ≤ maxLen) (hbg : b ≠ g) (n0 : 0 ≤ n) (n1 : n ≤ 255)
    (hc : w.cell? ⟨b, off + i, none⟩ = some (.int .u8 n)) :
    Calls Tryd.prog 77 #[.pointer (some ⟨g, 0, none⟩)] w (NumPost 0 255 g (some ⟨b, off, none⟩) len cap w) := by
  unfold maxLen at hlen
  have c0 : w.cell? ⟨g, 0, none⟩ = some (.slice (some ⟨b, off, none⟩) len cap) := c.cell 0
  have c1 : w.cell? ⟨g, 1, none⟩ = some (.int .i64 (i : Int)) := c.cell 1
  have c2 : w.cell? ⟨g, 2, none⟩ = some (.int .i64 h) := c.cell 2
  have f1 := c.free 1
  have f2 := c.free 2
  have C := Lib.hid c
  clear c
  have ha := i64_and255
  go_enter Tryd.func77, Tryd.ntmps77
  go_wp2
  go_quiet (fail)
  go_wp2
  go_quiet (fail)
  go_wp2
  go_quiet (fail)
  go_wp2
  go_ret
  exact ⟨_, i + 1, _, rfl, mod_lo _, mod_hi _, by omega, ((C.out.set2 _).drewN _).set1 (i + 1), only_setCell (only_drewN (only_setCell (World.grownBy.refl _ _) 2 _) _) 1 _⟩

/-- Block g is a cursor over bytes that can be read, below block B. -/
def Draw (w : World) (g B : Nat) (A : Option Addr) (len cap : Nat) : Prop := B ≤ g ∧ len ≤ maxLen ∧ Code w B A len ∧ ∃ (i : Nat) (h : Int), i ≤ len ∧ Cur w g A len cap i h
theorem Draw.lt {w : World} {g B : Nat} {A : Option Addr} {len cap : Nat} (d : Draw w g B A len cap) : g < w.heap.size := by
  obtain ⟨_, _, _, i, h, _, c⟩ := d
  exact c.lt
theorem Draw.le {w : World} {g B : Nat} {A : Option Addr} {len cap : Nat} (d : Draw w g B A len cap) : B ≤ g := d.1
theorem Draw.keep {w w' : World} {g B : Nat} {A : Option Addr} {len cap : Nat} (d : Draw w g B A len cap) (hk : ∀ k, k ≤ g → w'.heap[k]? = w.heap[k]?) : Draw w' g B A len cap := by
  obtain ⟨h1, h2, h3, i, h, h4, c⟩ := d
  exact ⟨h1, h2, h3.keep (fun k hk' => hk k (by omega)), i, h, h4, c.other (hk g (Nat.le_refl _))⟩
theorem Draw.below {w w' : World} {g B : Nat} {A : Option Addr} {len cap : Nat} (d : Draw w g B A len cap) {K : Nat} (hK : g < K) (hb : Below K w w') : Draw w' g B A len cap := d.keep fun k hk => hb.block k (by omega)
theorem Draw.alloc {w : World} {g B : Nat} {A : Option Addr} {len cap : Nat} (d : Draw w g B A len cap) (o : Obj) : Draw (w.alloc o) g B A len cap := d.keep fun k hk => Below.heap_alloc w o k (by have := d.lt; omega)
/-- A number from lo to hi comes back; the cursor has moved on; nothing else has changed. -/
def NumP (lo hi : Int) (g B : Nat) (A : Option Addr) (len cap : Nat) (w : World) (e : Ending) (w' : World) : Prop :=
  ∃ x : Int, e = .returned (.int .i64 x) ∧ lo ≤ x ∧ x ≤ hi ∧ Draw w' g B A len cap ∧ w.grownBy w' (some g)

/-- spec.l1Byte -/
theorem dbyte (g B : Nat) (A : Option Addr) (len cap : Nat) (w : World) (d : Draw w g B A len cap) :
    Calls Tryd.prog 77 #[.pointer (some ⟨g, 0, none⟩)] w (NumP 0 255 g B A len cap w) := by
  have hlt := d.lt
  obtain ⟨hB, hlen, hcode, i, h, hi, c⟩ := d
  have fin : ∀ e w', NumPost 0 255 g A len cap w e w' → NumP 0 255 g B A len cap w e w' := by
    rintro e w' ⟨x, i', h', he, h0, h1, hi', hc, hg⟩
    exact ⟨x, he, h0, h1, ⟨hB, hlen, hcode.keep (fun k hk => hg.block k (by omega) (fun e => by have := Option.some.inj e; omega)), i', h', hi', hc⟩, hg⟩
  by_cases he : i = len
  · exact (byte_end g len cap i A h w c he).mono fin
  · obtain ⟨b, off, n, rfl, hb, n0, n1, hc⟩ := hcode i (by omega)
    exact (byte_mid g len cap i b off h n w c (by omega) hlen (by omega) n0 n1 hc).mono fin
end Go.Proofs.YtjbppociogoopaaDoor

namespace Go.Proofs.YtjbppociogoopaaDoor
open Go.RowKit Go.Deep Go.Proofs.YtjbppociogoopaaDoor.Num

theorem mod_in (x n : Int) (h : 0 < n) : 0 ≤ x % n ∧ x % n ≤ n - 1 := by
  have h1 := Int.emod_nonneg x (by omega : n ≠ 0)
  have h2 := Int.emod_lt_of_pos x h
  omega

set_option maxRecDepth 100000 in
set_option maxHeartbeats 800000 in
/-- spec.l1Below -/
theorem dbelow (n : Int) (h0 : 0 < n) (hn : n ≤ 4000000000) (g B : Nat) (A : Option Addr) (len cap : Nat) (w : World) (d : Draw w g B A len cap) :
    Calls Tryd.prog 55 #[.pointer (some ⟨g, 0, none⟩), .int .i64 n] w (NumP 0 (n - 1) g B A len cap w) := by
  have D := Lib.hid d
  clear d
  by_cases h256 : n ≤ 256
  · go_enter Tryd.func55, Tryd.ntmps55
    go_wp2_with fail
    refine (dbyte g B A len cap _ D.out).mono ?_
    rintro e w1 ⟨x, rfl, x0, x1, d1, g1⟩
    have D1 := Lib.hid d1
    clear d1
    go_wp2
    go_ret
    exact ⟨_, rfl, (mod_in x n h0).1, (mod_in x n h0).2, D1.out, g1⟩
  · go_enter Tryd.func55, Tryd.ntmps55
    go_wp2_with fail
    refine (dbyte g B A len cap _ D.out).mono ?_
    rintro e w1 ⟨x, rfl, x0, x1, d1, g1⟩
    have D1 := Lib.hid d1
    clear d1
    go_wp2_with fail
    refine (dbyte g B A len cap _ D1.out).mono ?_
    rintro e w2 ⟨y, rfl, y0, y1, d2, g2⟩
    have D2 := Lib.hid d2
    clear d2
    go_wp2_with fail
    refine (dbyte g B A len cap _ D2.out).mono ?_
    rintro e w3 ⟨z, rfl, z0, z1, d3, g3⟩
    have D3 := Lib.hid d3
    clear d3
    go_wp2_with fail
    refine (dbyte g B A len cap _ D3.out).mono ?_
    rintro e w4 ⟨v, rfl, v0, v1, d4, g4⟩
    have D4 := Lib.hid d4
    clear d4
    go_wp2
    go_ret
    exact ⟨_, rfl, (mod_in _ n h0).1, (mod_in _ n h0).2, D4.out, only_trans (only_trans (only_trans g1 g2) g3) g4⟩

theorem only_alloc {a w : World} {g : Nat} (h : a.grownBy w (some g)) (o : Obj) : a.grownBy (w.alloc o) (some g) :=
  ⟨h.os, h.tape, h.output, Nat.le_trans h.size (by simp), fun i hi hne => (Below.heap_alloc w o i (Nat.lt_of_lt_of_le hi h.size)).trans (h.block i hi hne)⟩

set_option maxRecDepth 100000 in
set_option maxHeartbeats 800000 in
/-- spec.l1PickInt, over a row of ints of the caller's own. -/
theorem dpick (K n : Nat) (h0 : 0 < n) (hn : n ≤ 1000) (g B : Nat) (A : Option Addr) (len cap : Nat) (w : World) (d : Draw w g B A len cap) (hK : K ≠ g) (hKl : K < w.heap.size)
    (hc : ∀ j, j < n → ∃ v : Int, w.cell? ⟨K, j, none⟩ = some (.int .i64 v) ∧ -9223372036854775808 ≤ v ∧ v ≤ 9223372036854775807) :
    Calls Tryd.prog 69 #[.pointer (some ⟨g, 0, none⟩), .slice (some ⟨K, 0, none⟩) n n] w (NumP (-9223372036854775808) 9223372036854775807 g B A len cap w) := by
  have D := Lib.hid d
  have HC := Lib.hid hc
  clear d hc
  go_enter Tryd.func69, Tryd.ntmps69
  go_wp2_with fail
  refine (dbelow (n : Int) (by omega) (by omega) g B A len cap _ D.out).mono ?_
  rintro e w1 ⟨x, rfl, x0, x1, d1, g1⟩
  obtain ⟨j, rfl⟩ := Int.eq_ofNat_of_zero_le x0
  have hj : j < n := by omega
  obtain ⟨v, hv, v0, v1⟩ := HC.out j hj
  have hv1 : w1.cell? ⟨K, j, none⟩ = some (.int .i64 v) := (World.cell?_of_block (w := w) (g1.block K hKl (fun e => hK (Option.some.inj e)))).trans hv
  have D1 := Lib.hid d1
  have G1 := Lib.hid g1
  clear d1 g1 hv x0 x1
  go_wp2
  go_ret
  exact ⟨v, rfl, v0, v1, D1.out, G1.out⟩

/-- A row of ints written out. -/
theorem row_cells (w : World) (zs : List Int) (hz : ∀ z ∈ zs, -9223372036854775808 ≤ z ∧ z ≤ 9223372036854775807) :
    ∀ j, j < zs.length → ∃ v : Int, (w.alloc (.cells (zs.map (Value.int .i64)).toArray 3)).cell? ⟨w.heap.size, j, none⟩ = some (.int .i64 v) ∧ -9223372036854775808 ≤ v ∧ v ≤ 9223372036854775807 := by
  intro j hj
  refine ⟨zs[j], ?_, hz _ (List.getElem_mem hj)⟩
  rw [World.cell?_alloc_at _ _ _ _ rfl]
  simp [hj]

end Go.Proofs.YtjbppociogoopaaDoor

namespace Go.Proofs.YtjbppociogoopaaDoor
open Go.RowKit Go.Deep Go.Proofs.YtjbppociogoopaaDoor.Num

/-- A cursor in a new block comes back. -/
def NewP (A : Option Addr) (len cap : Nat) (w : World) (e : Ending) (w' : World) : Prop :=
  ∃ g : Nat, e = .returned (.pointer (some ⟨g, 0, none⟩)) ∧ w.heap.size ≤ g ∧ Draw w' g w.heap.size A len cap ∧ Below w.heap.size w w'

set_option maxRecDepth 100000 in
set_option maxHeartbeats 800000 in
/-- spec.l1New -/
theorem dnew (A : Option Addr) (len cap : Nat) (w : World) (hlen : len ≤ maxLen) (hcode : Code w w.heap.size A len) :
    Calls Tryd.prog 42 #[.slice A len cap] w (NewP A len cap w) := by
  have HC := Lib.hid hcode
  have HL := Lib.hid hlen
  clear hcode
  unfold maxLen at hlen
  go_enter Tryd.func42, Tryd.ntmps42
  go_wp2
  go_loop [3, 4] (fun h i => ∃ (k : Nat) (x : Int), k ≤ len ∧ k ≤ 4000 ∧ i = .int .i64 k ∧ h = .int .i64 x) (fun _ i => 4000 - (intOf i).toNat)
  case atStart => exact ⟨0, _, by omega, by omega, rfl, rfl⟩
  case round =>
    obtain ⟨k, x, hk, hk4, rfl, rfl⟩ := hrel
    by_cases hlt : k < len ∧ k < 4000
    · obtain ⟨hl, hl4⟩ := hlt
      obtain ⟨b, off, n, rfl, hb, n0, n1, hc⟩ := HC.out k hl
      go_wp2
      refine ⟨⟨k + 1, _, by omega, by omega, by go_num, rfl⟩, ?_⟩
      simp [intOf]
      omega
    · go_wp2
      all_goals go_ret
      all_goals exact ⟨w.heap.size, rfl, Nat.le_refl _, ⟨Nat.le_refl _, HL.out, HC.out.keep (fun k hk => Below.heap_alloc w _ k hk), 0, x, Nat.zero_le _, heap_alloc_new w _⟩, (Below.refl _ _).alloc (Nat.le_refl _) _⟩

theorem only_then {a b c : World} {g : Nat} (h : a.grownBy b (some g)) (k : Below a.heap.size b c) : a.grownBy c (some g) :=
  ⟨k.os.trans h.os, k.tape.trans h.tape, k.output.trans h.output, Nat.le_trans h.size k.size, fun i hi hne => (k.block i hi).trans (h.block i hi hne)⟩
theorem OwnB.only {w w' : World} {base g : Nat} {v : Value} {l : List UInt8} (h : OwnB w base v l) (hg : w.grownBy w' (some g)) (hb : g < base) : OwnB w' base v l :=
  World.ownsRow.kept h hg (by
    cases hv : v.ownBlock with
    | none => exact .inl rfl
    | some k =>
      refine .inr (fun e => ?_)
      have := (World.ownsRow.lt h k hv).1
      have := Option.some.inj e
      omega)
theorem cell_int (W : World) (x : Int) (h0 : 0 ≤ x) (h1 : x ≤ 255) : ∀ j (hj : j < [UInt8.ofNat x.toNat].length), (W.alloc (.cells #[.int .u8 x] 5)).cell? ⟨W.heap.size, j, none⟩ = some (.int .u8 ([UInt8.ofNat x.toNat][j].toNat : Int)) := by
  intro j hj
  obtain rfl : j = 0 := by rw [List.length_singleton] at hj; omega
  obtain ⟨n, rfl⟩ := Int.eq_ofNat_of_zero_le h0
  have e : (UInt8.ofNat n).toNat = n := by rw [UInt8.toNat_ofNat']; omega
  rw [World.cell?_alloc_at _ _ _ _ rfl, List.getElem_singleton, Int.toNat_natCast, e]
  rfl

/-- A string of at most 'most' bytes comes back; of what was there only the cursor has changed. -/
def TextP (most : Nat) (g B : Nat) (A : Option Addr) (len cap : Nat) (w : World) (e : Ending) (w' : World) : Prop :=
  ∃ l : List UInt8, e = .returned (.string ⟨l.toArray⟩) ∧ l.length ≤ most ∧ Draw w' g B A len cap ∧ w.grownBy w' (some g)

/-- An int comes back; nothing that was there has changed. -/
def IntP (w : World) (e : Ending) (w' : World) : Prop := ∃ x : Int, e = .returned (.int .i64 x) ∧ -9223372036854775808 ≤ x ∧ x ≤ 9223372036854775807 ∧ Below w.heap.size w w'
def StrP (most : Nat) (w : World) (e : Ending) (w' : World) : Prop := ∃ l : List UInt8, e = .returned (.string ⟨l.toArray⟩) ∧ l.length ≤ most ∧ Below w.heap.size w w'
def IntsP (w : World) (e : Ending) (w' : World) : Prop := ∃ x y : Int, e = .returned (.tuple #[.int .i64 x, .int .i64 y]) ∧ -9223372036854775808 ≤ x ∧ x ≤ 9223372036854775807 ∧ -1 ≤ y ∧ y ≤ 8 ∧ Below w.heap.size w w'
theorem Code.later {w w' : World} {A : Option Addr} {len : Nat} (c : Code w w.heap.size A len) (hb : Below w.heap.size w w') : Code w' w'.heap.size A len := by
  intro j hj
  obtain ⟨b, off, n, hA, hlt, h0, h1, hc⟩ := (c.keep (fun k hk => hb.block k hk)) j hj
  exact ⟨b, off, n, hA, Nat.lt_of_lt_of_le hlt hb.size, h0, h1, hc⟩
end Go.Proofs.YtjbppociogoopaaDoor

namespace Go.Proofs.YtjbppociogoopaaDoor
open Go.RowKit Go.Deep Go.Proofs.YtjbppociogoopaaDoor.Num

/-- A bool comes back; nothing but the cursor has changed. -/
def BoolP (g B : Nat) (A : Option Addr) (len cap : Nat) (w : World) (e : Ending) (w' : World) : Prop :=
  ∃ b : Bool, e = .returned (.bool b) ∧ Draw w' g B A len cap ∧ w.grownBy w' (some g)

/-- spec.l1Once -/
theorem donce (n : Int) (h0 : 0 < n) (hn : n ≤ 4000000000) (g B : Nat) (A : Option Addr) (len cap : Nat) (w : World) (d : Draw w g B A len cap) :
    Calls Tryd.prog 64 #[.pointer (some ⟨g, 0, none⟩), .int .i64 n] w (BoolP g B A len cap w) := by
  have D := Lib.hid d
  clear d
  go_enter Tryd.func64, Tryd.ntmps64
  go_wp2_with fail
  refine (dbelow n h0 hn g B A len cap _ D.out).mono ?_
  rintro e w1 ⟨x, rfl, x0, x1, d1, g1⟩
  go_wp2
  go_ret
  exact ⟨_, rfl, d1, g1⟩

set_option maxRecDepth 100000 in
set_option maxHeartbeats 800000 in
/-- spec.l1Pick, over a row of texts of the caller's own. -/
theorem dpicks (mx K n : Nat) (h0 : 0 < n) (hn : n ≤ 1000) (g B : Nat) (A : Option Addr) (len cap : Nat) (w : World) (d : Draw w g B A len cap) (hK : K ≠ g) (hKl : K < w.heap.size)
    (hc : ∀ j, j < n → ∃ l : List UInt8, w.cell? ⟨K, j, none⟩ = some (.string ⟨l.toArray⟩) ∧ l.length ≤ mx) :
    Calls Tryd.prog 58 #[.pointer (some ⟨g, 0, none⟩), .slice (some ⟨K, 0, none⟩) n n] w (TextP mx g B A len cap w) := by
  have D := Lib.hid d
  have HC := Lib.hid hc
  clear d hc
  go_enter Tryd.func58, Tryd.ntmps58
  go_wp2_with fail
  refine (dbelow (n : Int) (by omega) (by omega) g B A len cap _ D.out).mono ?_
  rintro e w1 ⟨x, rfl, x0, x1, d1, g1⟩
  obtain ⟨j, rfl⟩ := Int.eq_ofNat_of_zero_le x0
  have hj : j < n := by omega
  obtain ⟨l, hv, hl⟩ := HC.out j hj
  have hv1 : w1.cell? ⟨K, j, none⟩ = some (.string ⟨l.toArray⟩) := (World.cell?_of_block (w := w) (g1.block K hKl (fun e => hK (Option.some.inj e)))).trans hv
  have D1 := Lib.hid d1
  have G1 := Lib.hid g1
  clear d1 g1 hv x0 x1
  go_wp2
  go_ret
  exact ⟨l, rfl, hl, D1.out, G1.out⟩

/-- A row of texts written out. -/
theorem row_texts (mx : Nat) (w : World) (zs : List (List UInt8)) (hz : ∀ z ∈ zs, z.length ≤ mx) :
    ∀ j, j < zs.length → ∃ l : List UInt8, (w.alloc (.cells (zs.map fun z => Value.string ⟨z.toArray⟩).toArray 9)).cell? ⟨w.heap.size, j, none⟩ = some (.string ⟨l.toArray⟩) ∧ l.length ≤ mx := by
  intro j hj
  refine ⟨zs[j], ?_, hz _ (List.getElem_mem hj)⟩
  rw [World.cell?_alloc_at _ _ _ _ rfl]
  simp [hj]

set_option maxRecDepth 100000 in
set_option maxHeartbeats 1600000 in
/-- spec.l4Data -/
theorem d4data (most : Nat) (hm : most ≤ 100000) (g B : Nat) (A : Option Addr) (len cap : Nat) (w : World) (d : Draw w g B A len cap) :
    Calls Tryd.prog 59 #[.pointer (some ⟨g, 0, none⟩), .int .i64 (most : Int)] w (TextP most g B A len cap w) := by
  have D := Lib.hid d
  clear d
  go_enter Tryd.func59, Tryd.ntmps59
  go_wp2_with fail
  refine (dbelow ((most : Int) + 1) (by omega) (by omega) g B A len cap _ D.out).mono ?_
  rintro e w1 ⟨n, rfl, n0, n1, d1, g1⟩
  have D1 := Lib.hid d1
  have G1 := Lib.hid g1
  clear d1 g1
  obtain ⟨m, rfl⟩ := Int.eq_ofNat_of_zero_le n0
  go_wp2_with fail
  go_loopw [5, 6] (fun v x wr => ∃ (k : Nat) (l : List UInt8), x = .int .i64 k ∧ v = .string ⟨l.toArray⟩ ∧ l.length + k ≤ most ∧ Draw wr g B A len cap ∧ w.grownBy wr (some g)) (fun _ x _ => (intOf x).toNat)
  case atStart => exact ⟨m, [], rfl, rfl, by simp; omega, D1.out, G1.out⟩
  case round =>
    obtain ⟨k, l, rfl, rfl, hk, hd, hg⟩ := hrel
    have HD := Lib.hid hd
    have HG := Lib.hid hg
    have hlt := hd.lt
    clear hd hg
    by_cases hz : 0 < k
    · have hzd : decide (0 < (k : Int)) = true := decide_eq_true (by omega)
      have HR := Lib.hid (row_texts 1 wr [[97], [98], [99], [100]] (by decide))
      go_wp2_with fail
      refine (dpicks 1 wr.heap.size 4 (by decide) (by decide) g B A len cap _ (HD.out.alloc _) (by omega) (by simp) HR.out).mono ?_
      rintro e w3 ⟨bs, rfl, hbl, d3, g3⟩
      have D3 := Lib.hid d3
      have G3 := Lib.hid (only_trans (only_alloc HG.out _) g3)
      have hsum : l.length + bs.length ≤ 9223372036854775807 := by omega
      clear d3 g3 HR
      go_wp2
      go_roundw
      case rel => exact ⟨k - 1, l ++ bs, by congr 1; omega, by first | rfl | (congr 1; done) | (congr 1; apply ByteArray.ext; simp), by simp; omega, D3.out, G3.out⟩
      case measure => simp [intOf]; omega
    · have hzd : decide (0 < (k : Int)) = false := decide_eq_false (by omega)
      go_wp2
      go_ret
      exact ⟨l, rfl, by omega, HD.out, HG.out⟩
end Go.Proofs.YtjbppociogoopaaDoor

namespace Go.Proofs.YtjbppociogoopaaDoor
open Go.RowKit Go.Deep Go.Proofs.YtjbppociogoopaaDoor.Num


set_option maxRecDepth 100000 in
set_option maxHeartbeats 800000 in
/-- spec.l2Bytes -/
theorem dbytes (most : Nat) (hm : most ≤ 100000) (g B : Nat) (A : Option Addr) (len cap : Nat) (w : World) (d : Draw w g B A len cap) :
    Calls Tryd.prog 56 #[.pointer (some ⟨g, 0, none⟩), .int .i64 (most : Int)] w (TextP most g B A len cap w) := by
  have D := Lib.hid d
  clear d
  go_enter Tryd.func56, Tryd.ntmps56
  go_wp2_with fail
  refine (dbelow ((most : Int) + 1) (by omega) (by omega) g B A len cap _ D.out).mono ?_
  rintro e w1 ⟨n, rfl, n0, n1, d1, g1⟩
  have D1 := Lib.hid d1
  have G1 := Lib.hid g1
  clear d1 g1
  obtain ⟨m, rfl⟩ := Int.eq_ofNat_of_zero_le n0
  go_wp2
  go_loopw [5, 6] (fun v x wr => ∃ (k : Nat) (l : List UInt8), x = .int .i64 k ∧ l.length + k ≤ most ∧ v = .string ⟨l.toArray⟩ ∧ Draw wr g B A len cap ∧ w.grownBy wr (some g)) (fun _ x _ => (intOf x).toNat)
  case atStart => exact ⟨m, [], rfl, by simp; omega, rfl, D1.out, G1.out⟩
  case round =>
    obtain ⟨k, l, rfl, hk, rfl, hd, hg⟩ := hrel
    have HD := Lib.hid hd
    have HG := Lib.hid hg
    clear hd hg
    by_cases hz : 0 < k
    · obtain ⟨k, rfl⟩ : ∃ j, k = j + 1 := ⟨k - 1, by omega⟩
      go_wp2_with fail
      refine (dbelow 256 (by decide) (by decide) g B A len cap _ HD.out).mono ?_
      rintro e w3 ⟨x, rfl, x0, x1, d3, g3⟩
      have D3 := Lib.hid d3
      have G3 := Lib.hid (only_trans HG.out g3)
      clear d3 g3
      obtain ⟨y, rfl⟩ := Int.eq_ofNat_of_zero_le x0
      go_wp2_with fail
      refine (sbyte (y : Int) y (by omega) w3).mono ?_
      rintro e w4 ⟨rfl, hb⟩
      have D4 := Lib.hid (D3.out.below D3.out.lt hb)
      have G4 := Lib.hid (only_then G3.out (hb.mono G3.out.size))
      clear hb
      have hadd : ∀ W : World, (Op.stringOp .add ⟨l.toArray⟩ ⟨[UInt8.ofNat y].toArray⟩).run Tryd.prog W = .ok (.string ⟨(l ++ [UInt8.ofNat y]).toArray⟩) W := fun W => by
        rw [run_string_add_lists W _ _ (by omega) (by simp)]
      go_wp2
      go_roundw
      case rel => exact ⟨k, l ++ [UInt8.ofNat y], by go_num, by simp; omega, rfl, D4.out, G4.out⟩
      case measure => simp [intOf]
    · go_wp2
      go_ret
      exact ⟨l, rfl, by omega, HD.out, HG.out⟩
end Go.Proofs.YtjbppociogoopaaDoor

namespace Go.Proofs.YtjbppociogoopaaDoor
open Go.RowKit Go.Deep Go.Proofs.YtjbppociogoopaaDoor.Num

set_option maxRecDepth 100000 in
set_option maxHeartbeats 1600000 in
/-- spec.l1Text -/
theorem dtext (most : Nat) (hm : most ≤ 100000) (g B : Nat) (A : Option Addr) (len cap : Nat) (w : World) (d : Draw w g B A len cap) :
    Calls Tryd.prog 79 #[.pointer (some ⟨g, 0, none⟩), .int .i64 (most : Int)] w (TextP most g B A len cap w) := by
  have hlt := d.lt
  have D := Lib.hid d
  clear d
  go_enter Tryd.func79, Tryd.ntmps79
  go_wp2_with fail
  refine (dbelow 4 (by decide) (by decide) g B A len cap _ (D.out.alloc _)).mono ?_
  rintro e w1 ⟨st, rfl, s0, s1, d1, g1⟩
  have D1 := Lib.hid d1
  have G1 := Lib.hid (only_trans (only_alloc (World.grownBy.refl w (some g)) _) g1)
  have O1 := Lib.hid (OwnB.only (OwnB.lit w w.heap.size 0 #[] (Nat.le_refl _) (by decide) rfl) g1 hlt)
  clear d1 g1
  go_wp2_with fail
  refine (dbelow ((most : Int) + 1) (by omega) (by omega) g B A len cap _ D1.out).mono ?_
  rintro e w2 ⟨n, rfl, n0, n1, d2, g2⟩
  have D2 := Lib.hid d2
  have O2 := Lib.hid (O1.out.only g2 hlt)
  have G2 := Lib.hid (only_trans G1.out g2)
  clear d2 g2
  obtain ⟨m, rfl⟩ := Int.eq_ofNat_of_zero_le n0
  go_wp2_with fail
  go_loopw [5, 7] (fun v x wr => ∃ (k : Nat) (l : List UInt8), x = .int .i64 k ∧ l.length + k ≤ most ∧ OwnB wr w.heap.size v l ∧ Draw wr g B A len cap ∧ w.grownBy wr (some g)) (fun _ x _ => (intOf x).toNat)
  case atStart => exact ⟨m, [], rfl, by simp; omega, O2.out, D2.out, G2.out⟩
  case round =>
    obtain ⟨k, l, rfl, hk, hown, hd, hg⟩ := hrel
    have HO := Lib.hid hown
    have HD := Lib.hid hd
    have HG := Lib.hid hg
    have hsz : w.heap.size ≤ wr.heap.size := hg.size
    clear hown hd hg
    by_cases hz : 0 < k
    · go_wp2_with fail
      refine (dbyte g B A len cap _ HD.out).mono ?_
      rintro e w3 ⟨x, rfl, x0, x1, d3, g3⟩
      have D3 := Lib.hid d3
      have O3 := Lib.hid (HO.out.only g3 hlt)
      have G3 := Lib.hid (only_trans HG.out g3)
      have hs3 : w.heap.size ≤ w3.heap.size := G3.out.size
      clear d3 g3
      by_cases e1 : st = 1
      · have q1 : (st == 1) = true := by simpa using e1
        have q2 : (st == 2) = false := by simp; omega
        clear e1
        go_wp2_with (at_builtin; refine wpList_append_bytes _ rfl (.tmp 31) (.tmp 34) rfl w.heap.size _ l rfl (O3.out.alloc _) w3.heap.size 1 1 [UInt8.ofNat (x % 2).toNat] rfl rfl (cell_int w3 (x % 2) (by omega) (by omega)) (by omega) (by simp; omega) ?_; intro v' w' hown' hbel)
        have hB : Below w.heap.size w3 w' := ((Below.refl _ _).alloc hs3 _).trans hbel
        refine ⟨⟨k - 1, l ++ [UInt8.ofNat (x % 2).toNat], by congr 1; omega, by simp; omega, hown', D3.out.below hlt hB, only_then G3.out hB⟩, ?_⟩
        simp [intOf]
        omega
      · have q1 : (st == 1) = false := by simpa using e1
        by_cases e2 : st = 2
        · have q2 : (st == 2) = true := by simpa using e2
          clear e1 e2
          go_wp2_with (at_builtin; refine wpList_append_bytes _ rfl (.tmp 31) (.tmp 34) rfl w.heap.size _ l rfl (O3.out.alloc _) w3.heap.size 1 1 [UInt8.ofNat (97 + x % 4).toNat] rfl rfl (cell_int w3 (97 + x % 4) (by omega) (by omega)) (by omega) (by simp; omega) ?_; intro v' w' hown' hbel)
          have hB : Below w.heap.size w3 w' := ((Below.refl _ _).alloc hs3 _).trans hbel
          refine ⟨⟨k - 1, l ++ [UInt8.ofNat (97 + x % 4).toNat], by congr 1; omega, by simp; omega, hown', D3.out.below hlt hB, only_then G3.out hB⟩, ?_⟩
          simp [intOf]
          omega
        · have q2 : (st == 2) = false := by simpa using e2
          clear e1 e2
          go_wp2_with (at_builtin; refine wpList_append_bytes _ rfl (.tmp 31) (.tmp 34) rfl w.heap.size _ l rfl (O3.out.alloc _) w3.heap.size 1 1 [UInt8.ofNat (x).toNat] rfl rfl (cell_int w3 (x) (by omega) (by omega)) (by omega) (by simp; omega) ?_; intro v' w' hown' hbel)
          have hB : Below w.heap.size w3 w' := ((Below.refl _ _).alloc hs3 _).trans hbel
          refine ⟨⟨k - 1, l ++ [UInt8.ofNat (x).toNat], by congr 1; omega, by simp; omega, hown', D3.out.below hlt hB, only_then G3.out hB⟩, ?_⟩
          simp [intOf]
          omega
    · have HC := conv_own wr _ _ _ HO.out
      go_wp2
      go_ret
      exact ⟨l, rfl, by omega, HD.out, HG.out⟩
end Go.Proofs.YtjbppociogoopaaDoor

namespace Go.Proofs.YtjbppociogoopaaDoor
open Go.RowKit Go.Deep Go.Proofs.YtjbppociogoopaaDoor.Num

/-- Any string is some list of bytes. -/
theorem text_of (b : ByteArray) : (⟨b.data.toList.toArray⟩ : ByteArray) = b := by
  apply ByteArray.ext
  simp

theorem spoil_one (W : World) (x : Int) (h0 : 0 ≤ x) (h1 : x ≤ 255) : ∀ j, j < [UInt8.ofNat x.toNat].length → (W.alloc (.cells #[.int .u8 x] 5)).cell? ⟨W.heap.size, j, none⟩ = (cellsB [UInt8.ofNat x.toNat])[j]? := by
  intro j hj
  rw [cell_int W x h0 h1 j hj]
  obtain rfl : j = 0 := by simpa using hj
  rfl
set_option maxRecDepth 100000 in
set_option maxHeartbeats 2000000 in
/-- spec.l1Spoil -/
theorem dspoil (s : ByteArray) (hs : s.size ≤ 100000) (g B : Nat) (A : Option Addr) (len cap : Nat) (w : World) (d : Draw w g B A len cap) :
    Calls Tryd.prog 57 #[.pointer (some ⟨g, 0, none⟩), .string s] w (TextP (s.size + 3) g B A len cap w) := by
  have hlt := d.lt
  have D := Lib.hid d
  clear d
  by_cases hz : s.size = 0
  · have he : ((s.size : Int) == 0) = true := by simpa using hz
    have HZ := Lib.hid hz
    clear hz
    go_enter Tryd.func57, Tryd.ntmps57
    go_wp2_with fail
    refine (dtext 3 (by decide) g B A len cap _ D.out).mono ?_
    rintro e w1 ⟨l, rfl, hl, d1, g1⟩
    go_wp2
    go_ret
    exact ⟨l, rfl, by omega, d1, g1⟩
  · have he : ((s.size : Int) == 0) = false := by simpa using hz
    have hsp : 0 < s.size := by omega
    clear hz
    go_enter Tryd.func57, Tryd.ntmps57
    go_wp2_with fail
    refine (dbelow (s.size : Int) (by omega) (by omega) g B A len cap _ D.out).mono ?_
    rintro e w1 ⟨x, rfl, x0, x1, d1, g1⟩
    obtain ⟨p, rfl⟩ := Int.eq_ofNat_of_zero_le x0
    have hps : p < s.size := by omega
    have D1 := Lib.hid d1
    have G1 := Lib.hid g1
    clear d1 g1 x0 x1
    go_wp2_with fail
    refine (dbelow 4 (by decide) (by decide) g B A len cap _ D1.out).mono ?_
    rintro e w2 ⟨z, rfl, z0, z1, d2, g2⟩
    have D2 := Lib.hid d2
    have G2 := Lib.hid (only_trans G1.out g2)
    clear d2 g2 D1 G1
    have s0 : (0 : Int) ≤ (p : Int) := by omega
    have s1 : (p : Int) ≤ (s.size : Int) := by omega
    have t0 : (0 : Int) ≤ (p : Int) + 1 := by omega
    have t1 : (p : Int) + 1 ≤ (s.size : Int) := by omega
    have k1 : (s.extract 0 p).size = p := by rw [ByteArray.size_extract]; omega
    have k2 : (s.extract (p + 1) s.size).size = s.size - (p + 1) := by rw [ByteArray.size_extract]; omega
    have k3 : (s.extract p s.size).size = s.size - p := by rw [ByteArray.size_extract]; omega
    have hfin : ∀ b : ByteArray, b.size ≤ s.size + 3 → b.data.toList.length ≤ s.size + 3 := fun b hb => by
      have : b.data.toList.length = b.size := by simp
      omega
    have HFIN := Lib.hid hfin
    clear hfin
    by_cases e0 : z = 0
    · have q0 : (z == 0) = true := by simpa using e0
      have hadd : ∀ W : World, (Op.stringOp .add (s.extract 0 p) (s.extract (p + 1) s.size)).run Tryd.prog W = .ok (.string (s.extract 0 p ++ s.extract (p + 1) s.size)) W := fun W => run_string_add_sum W _ _ (by omega)
      have HL := Lib.hid (HFIN.out (s.extract 0 p ++ s.extract (p + 1) s.size) (by rw [ByteArray.size_append]; omega))
      clear e0 z0 z1 k1 k2 k3
      go_wp2
      go_quiet (fail)
      go_wp2
      go_ret
      exact ⟨_, by rw [text_of]; rfl, HL.out, D2.out, only_drewN G2.out _⟩
    have q0 : (z == 0) = false := by simpa using e0
    by_cases e1 : z = 1
    · have q1 : (z == 1) = true := by simpa using e1
      have hconv : ∀ (W : World) (x : Int), 0 ≤ x → x ≤ 255 → (convert 22 9 (.slice (some ⟨W.heap.size, 0, none⟩) 1 1)).run Tryd.prog (W.alloc (.cells #[.int .u8 x] 5)) = .ok (.string ⟨[UInt8.ofNat x.toNat].toArray⟩) (W.alloc (.cells #[.int .u8 x] 5)) := fun W x h0 h1 =>
        conv_row _ W.heap.size [UInt8.ofNat x.toNat] 1 (spoil_one W x h0 h1)
      have HV := Lib.hid hconv
      have hadd1 : ∀ (W : World) (b : UInt8), (Op.stringOp .add (s.extract 0 p) ⟨[b].toArray⟩).run Tryd.prog W = .ok (.string (s.extract 0 p ++ ⟨[b].toArray⟩)) W := fun W b => run_string_add_sum W _ _ (by show _ + 1 ≤ _; omega)
      have hadd2 : ∀ (W : World) (b : UInt8), (Op.stringOp .add (s.extract 0 p ++ ⟨[b].toArray⟩) (s.extract p s.size)).run Tryd.prog W = .ok (.string (s.extract 0 p ++ ⟨[b].toArray⟩ ++ s.extract p s.size)) W := fun W b => run_string_add_sum W _ _ (by rw [ByteArray.size_append]; show _ + 1 + _ ≤ _; omega)
      have HL : Hid (∀ b : UInt8, (s.extract 0 p ++ ⟨[b].toArray⟩ ++ s.extract p s.size).data.toList.length ≤ s.size + 3) := Lib.hid fun b => HFIN.out _ (by rw [ByteArray.size_append, ByteArray.size_append]; show _ + 1 + _ ≤ _; omega)
      clear e0 e1 z0 z1 hconv k1 k2 k3
      have D2d : Hid (Draw w2.drew g B A len cap) := Lib.hid D2.out
      have G2d : Hid (w.grownBy w2.drew (some g)) := Lib.hid (only_drewN G2.out 1)
      go_wp2
      go_region_with (go_at_call 77; refine (dbyte g B A len cap _ D2d.out).mono ?_; rintro e w3 ⟨x, rfl, x0, x1, d3, g3⟩; have hv3 := HV.out w3 (IntKind.u8.wrap x) (by rw [IntKind.wrap_u8']; omega) (by rw [IntKind.wrap_u8']; omega); have D3 := Lib.hid d3; have G3 := Lib.hid (only_trans G2d.out g3); clear d3 g3)
      all_goals go_wp2
      all_goals go_ret
      all_goals exact ⟨_, by rw [text_of]; rfl, HL.out _, D3.out.alloc _, only_alloc G3.out _⟩
    have q1 : (z == 1) = false := by simpa using e1
    by_cases e2 : z = 2
    · have q2 : (z == 2) = true := by simpa using e2
      have HL := Lib.hid (HFIN.out (s.extract 0 p) (by omega))
      clear e0 e1 e2 z0 z1 k1 k2 k3
      go_wp2
      go_ret
      exact ⟨_, by rw [text_of]; rfl, HL.out, D2.out, G2.out⟩
    have q2 : (z == 2) = false := by simpa using e2
    have hconv : ∀ (W : World) (n : Int), (convert 22 9 (.slice (some ⟨W.heap.size, 0, none⟩) 1 1)).run Tryd.prog (W.alloc (.cells #[.int .u8 (IntKind.u8.wrap n)] 5)) = .ok (.string ⟨[UInt8.ofNat (IntKind.u8.wrap n).toNat].toArray⟩) (W.alloc (.cells #[.int .u8 (IntKind.u8.wrap n)] 5)) := fun W n =>
      conv_row _ W.heap.size [UInt8.ofNat (IntKind.u8.wrap n).toNat] 1 (spoil_one W (IntKind.u8.wrap n) (by rw [IntKind.wrap_u8']; omega) (by rw [IntKind.wrap_u8']; omega))
    have HV := Lib.hid hconv
    have hadd1 : ∀ (W : World) (b : UInt8), (Op.stringOp .add (s.extract 0 p) ⟨[b].toArray⟩).run Tryd.prog W = .ok (.string (s.extract 0 p ++ ⟨[b].toArray⟩)) W := fun W b => run_string_add_sum W _ _ (by show _ + 1 ≤ _; omega)
    have hadd2 : ∀ (W : World) (b : UInt8), (Op.stringOp .add (s.extract 0 p ++ ⟨[b].toArray⟩) (s.extract (p + 1) s.size)).run Tryd.prog W = .ok (.string (s.extract 0 p ++ ⟨[b].toArray⟩ ++ s.extract (p + 1) s.size)) W := fun W b => run_string_add_sum W _ _ (by rw [ByteArray.size_append]; show _ + 1 + _ ≤ _; omega)
    have HL : Hid (∀ b : UInt8, (s.extract 0 p ++ ⟨[b].toArray⟩ ++ s.extract (p + 1) s.size).data.toList.length ≤ s.size + 3) := Lib.hid fun b => HFIN.out _ (by rw [ByteArray.size_append, ByteArray.size_append]; show _ + 1 + _ ≤ _; omega)
    clear e0 e1 e2 z0 z1 hconv k1 k2 k3
    have D2d : Hid (Draw w2.drew g B A len cap) := Lib.hid D2.out
    have G2d : Hid (w.grownBy w2.drew (some g)) := Lib.hid (only_drewN G2.out 1)
    go_wp2
    have hp1 : (p : Int) < (s.size : Int) := by omega
    have hp2 : ¬ ((s.size : Int) < (p : Int) + 1) := by omega
    have hp3 : ¬ ((p : Int) + 1 < 0) := by omega
    have hp4 : IntKind.i64.wrap ((p : Int) + 1) = (p : Int) + 1 := by rw [IntKind.wrap_i64]; omega
    go_region_with (first | (go_at_call 55; refine (dbelow 255 (by decide) (by decide) g B A len cap _ D2d.out).mono ?_; rintro e w3 ⟨x, rfl, x0, x1, d3, g3⟩; have hv3 := fun n => HV.out w3 n; have D3 := Lib.hid d3; have G3 := Lib.hid (only_trans G2d.out g3); clear d3 g3))
    all_goals go_wp2
    all_goals go_ret
    all_goals exact ⟨_, by rw [text_of]; rfl, HL.out _, D3.out.alloc _, only_alloc G3.out _⟩
end Go.Proofs.YtjbppociogoopaaDoor

namespace Go.Proofs.YtjbppociogoopaaDoor
open Go.RowKit Go.Deep Go.Proofs.YtjbppociogoopaaDoor.Num

theorem only_new {a w : World} {g : Nat} (h : a.grownBy w (some g)) (K j : Nat) (hK : a.heap.size ≤ K) (u : Value) : a.grownBy (w.setCell ⟨K, j, none⟩ u) (some g) :=
  ⟨h.os, h.tape, h.output, by simpa [World.setCell] using h.size, fun i hi hne => (Below.heap_setCell w ⟨K, j, none⟩ u i (by show i ≠ K; omega)).trans (h.block i hi hne)⟩
theorem Draw.set {w : World} {g B K j : Nat} {A : Option Addr} {len cap : Nat} (d : Draw w g B A len cap) (h : g < K) (u : Value) : Draw (w.setCell ⟨K, j, none⟩ u) g B A len cap :=
  d.keep fun k hk => Below.heap_setCell w ⟨K, j, none⟩ u k (by show k ≠ K; omega)
theorem BoxF.only {w w' : World} {g k : Nat} {x : Fr} (b : BoxF w k x) (h : w.grownBy w' (some g)) (hne : k ≠ g) : BoxF w' k x :=
  (h.block k b.lt (fun e => hne (Option.some.inj e))).trans b
theorem setAll_draw {w : World} {g B K : Nat} {A : Option Addr} {len cap : Nat} (d : Draw w g B A len cap) (h : g < K) (f : Fr) : Draw (setAll w K f) g B A len cap := by
  unfold setAll
  exact ((((((((d.set h _).set h _).set h _).set h _).set h _).set h _).set h _).set h _).set h _
theorem setAll_only {a w : World} {g K : Nat} (h : a.grownBy w (some g)) (hK : a.heap.size ≤ K) (f : Fr) : a.grownBy (setAll w K f) (some g) := by
  unfold setAll
  exact only_new (only_new (only_new (only_new (only_new (only_new (only_new (only_new (only_new h _ _ hK _) _ _ hK _) _ _ hK _) _ _ hK _) _ _ hK _) _ _ hK _) _ _ hK _) _ _ hK _) _ _ hK _

/-- A frame comes back; of what was there only the cursor has changed. -/
def FrDP (g B : Nat) (A : Option Addr) (len cap : Nat) (w : World) (e : Ending) (w' : World) : Prop :=
  ∃ f : Fr, e = .returned (frV f) ∧ f.data.size ≤ 6 ∧ Draw w' g B A len cap ∧ w.grownBy w' (some g)
/-- The result's block, the frame that is made, and the cursor. -/
def HeldD (w : World) (g B : Nat) (A : Option Addr) (len cap : Nat) (K1 K3 : Nat) (f : Fr) (W : World) : Prop :=
  Draw W g B A len cap ∧ w.grownBy W (some g) ∧ BoxF W K1 fr0 ∧ BoxF W K3 f ∧ g < K1 ∧ K1 < K3 ∧ w.heap.size ≤ K1
section
variable {w W W1 : World} {g B : Nat} {A : Option Addr} {len cap K1 K3 : Nat} {f : Fr}
theorem HeldD.after (h : HeldD w g B A len cap K1 K3 f W) (d : Draw W1 g B A len cap) (k : W.grownBy W1 (some g)) : HeldD w g B A len cap K1 K3 f W1 :=
  ⟨d, only_trans h.2.1 k, h.2.2.1.only k (by have := h.2.2.2.2; omega), h.2.2.2.1.only k (by have := h.2.2.2.2; omega), h.2.2.2.2⟩
theorem HeldD.alloc (h : HeldD w g B A len cap K1 K3 f W) (ob : Obj) : HeldD w g B A len cap K1 K3 f (W.alloc ob) :=
  ⟨h.1.alloc ob, only_alloc h.2.1 ob, h.2.2.1.alloc ob, h.2.2.2.1.alloc ob, h.2.2.2.2⟩
theorem HeldD.below (h : HeldD w g B A len cap K1 K3 f W) (hb : Below W.heap.size W W1) : HeldD w g B A len cap K1 K3 f W1 :=
  ⟨h.1.below h.1.lt hb, only_then h.2.1 (hb.mono h.2.1.size), h.2.2.1.below hb h.2.2.1.lt, h.2.2.2.1.below hb h.2.2.2.1.lt, h.2.2.2.2⟩
theorem HeldD.hne (h : HeldD w g B A len cap K1 K3 f W) : K3 ≠ K1 := by have := h.2.2.2.2; omega
theorem HeldD.st0 (h : HeldD w g B A len cap K1 K3 f W) (x : Int) : HeldD w g B A len cap K1 K3 { f with kind := x } (W.setCell ⟨K3, 0, none⟩ (.int .i64 x)) :=
  ⟨h.1.set (by have := h.2.2.2.2; omega) _, only_new h.2.1 _ _ (by have := h.2.2.2.2; omega) _, h.2.2.1.other h.hne _ _, h.2.2.2.1.set0 x, h.2.2.2.2⟩
theorem HeldD.st1 (h : HeldD w g B A len cap K1 K3 f W) (x : Int) : HeldD w g B A len cap K1 K3 { f with stream := x } (W.setCell ⟨K3, 1, none⟩ (.int .i64 x)) :=
  ⟨h.1.set (by have := h.2.2.2.2; omega) _, only_new h.2.1 _ _ (by have := h.2.2.2.2; omega) _, h.2.2.1.other h.hne _ _, h.2.2.2.1.set1 x, h.2.2.2.2⟩
theorem HeldD.st2 (h : HeldD w g B A len cap K1 K3 f W) (x : Int) : HeldD w g B A len cap K1 K3 { f with offset := x } (W.setCell ⟨K3, 2, none⟩ (.int .i64 x)) :=
  ⟨h.1.set (by have := h.2.2.2.2; omega) _, only_new h.2.1 _ _ (by have := h.2.2.2.2; omega) _, h.2.2.1.other h.hne _ _, h.2.2.2.1.set2 x, h.2.2.2.2⟩
theorem HeldD.st3 (h : HeldD w g B A len cap K1 K3 f W) (x : ByteArray) : HeldD w g B A len cap K1 K3 { f with data := x } (W.setCell ⟨K3, 3, none⟩ (.string x)) :=
  ⟨h.1.set (by have := h.2.2.2.2; omega) _, only_new h.2.1 _ _ (by have := h.2.2.2.2; omega) _, h.2.2.1.other h.hne _ _, h.2.2.2.1.set3 x, h.2.2.2.2⟩
theorem HeldD.st4 (h : HeldD w g B A len cap K1 K3 f W) (x : Bool) : HeldD w g B A len cap K1 K3 { f with fin := x } (W.setCell ⟨K3, 4, none⟩ (.bool x)) :=
  ⟨h.1.set (by have := h.2.2.2.2; omega) _, only_new h.2.1 _ _ (by have := h.2.2.2.2; omega) _, h.2.2.1.other h.hne _ _, h.2.2.2.1.set4 x, h.2.2.2.2⟩
theorem HeldD.st5 (h : HeldD w g B A len cap K1 K3 f W) (x : Int) : HeldD w g B A len cap K1 K3 { f with code := x } (W.setCell ⟨K3, 5, none⟩ (.int .i64 x)) :=
  ⟨h.1.set (by have := h.2.2.2.2; omega) _, only_new h.2.1 _ _ (by have := h.2.2.2.2; omega) _, h.2.2.1.other h.hne _ _, h.2.2.2.1.set5 x, h.2.2.2.2⟩
theorem HeldD.st6 (h : HeldD w g B A len cap K1 K3 f W) (x : Int) : HeldD w g B A len cap K1 K3 { f with limit := x } (W.setCell ⟨K3, 6, none⟩ (.int .i64 x)) :=
  ⟨h.1.set (by have := h.2.2.2.2; omega) _, only_new h.2.1 _ _ (by have := h.2.2.2.2; omega) _, h.2.2.1.other h.hne _ _, h.2.2.2.1.set6 x, h.2.2.2.2⟩
theorem HeldD.st7 (h : HeldD w g B A len cap K1 K3 f W) (x : Int) : HeldD w g B A len cap K1 K3 { f with final := x } (W.setCell ⟨K3, 7, none⟩ (.int .i64 x)) :=
  ⟨h.1.set (by have := h.2.2.2.2; omega) _, only_new h.2.1 _ _ (by have := h.2.2.2.2; omega) _, h.2.2.1.other h.hne _ _, h.2.2.2.1.set7 x, h.2.2.2.2⟩
theorem HeldD.st8 (h : HeldD w g B A len cap K1 K3 f W) (x : Bool) : HeldD w g B A len cap K1 K3 { f with uni := x } (W.setCell ⟨K3, 8, none⟩ (.bool x)) :=
  ⟨h.1.set (by have := h.2.2.2.2; omega) _, only_new h.2.1 _ _ (by have := h.2.2.2.2; omega) _, h.2.2.1.other h.hne _ _, h.2.2.2.1.set8 x, h.2.2.2.2⟩
end
theorem usedF_size (f : Fr) : (usedF f).data.size ≤ f.data.size := by
  unfold usedF
  simp only
  split
  · exact Nat.le_refl _
  · exact Nat.zero_le _

set_option maxRecDepth 100000 in
set_option maxHeartbeats 2000000 in
/-- spec.l4Frame -/
theorem d4frame (g B : Nat) (A : Option Addr) (len cap : Nat) (w : World) (d : Draw w g B A len cap) :
    Calls Tryd.prog 68 #[.pointer (some ⟨g, 0, none⟩)] w (FrDP g B A len cap w) := by
  have hgs := d.lt
  have D0 := Lib.hid (d.alloc (.cells (frC fr0) 25))
  have G0 := Lib.hid (only_alloc (World.grownBy.refl w (some g)) (.cells (frC fr0) 25))
  have X0 := Lib.hid (BoxF.new w fr0)
  have HR := Lib.hid (row_cells (w.alloc (.cells (frC fr0) 25)) [4, 5, 8, 8, 8, 8, 16, 17, 18, 20, 21, 22] (by decide))
  clear d
  go_enter Tryd.func68, Tryd.ntmps68
  go_wp2_with fail
  refine (dpick (w.heap.size + 1) 12 (by decide) (by decide) g B A len cap _ (D0.out.alloc _) (by omega) (by simp) (by have := HR.out; simpa using this)).mono ?_
  rintro e w1 ⟨k, rfl, _, _, d1, g1⟩
  have D1 := Lib.hid d1
  have G1 := Lib.hid (only_trans (only_alloc G0.out _) g1)
  have X1 : Hid (BoxF w1 w.heap.size fr0) := Lib.hid (BoxF.only (X0.out.alloc _) g1 (by omega))
  clear d1 g1 HR
  have hw1 : w.heap.size < w1.heap.size := X1.out.lt
  have H1 : Hid (HeldD w g B A len cap w.heap.size w1.heap.size ⟨k, 0, 0, ⟨#[]⟩, false, 0, 0, 0, false⟩ (w1.alloc (.cells (frC ⟨k, 0, 0, ⟨#[]⟩, false, 0, 0, 0, false⟩) 25))) := Lib.hid
    ⟨D1.out.alloc _, only_alloc G1.out _, X1.out.alloc _, BoxF.new w1 _, hgs, hw1, Nat.le_refl _⟩
  clear D0 G0 X0 D1 G1 X1
  go_wp2_with fail
  refine (dbelow 8 (by decide) (by decide) g B A len cap _ H1.out.1).mono ?_
  rintro e v2 ⟨st, rfl, _, _, d, g1⟩
  have J2 := Lib.hid (H1.out.after d g1)
  clear d g1 H1
  obtain ⟨x0, x1, x2, x3, x4, x5, x6, x7, x8⟩ := J2.out.2.2.2.1.cells
  have fz := J2.out.2.2.2.1.free
  dsimp only at x0 x1 x2 x3 x4 x5 x6 x7 x8
  go_upto_region 3 with fail
  have H2 := Lib.hid (J2.out.st1 st)
  clear x0 x1 x2 x3 x4 x5 x6 x7 x8 fz J2
  generalize v2.setCell ⟨w1.heap.size, 1, none⟩ (.int .i64 st) = w2 at *
  go_wp2_with fail
  refine (dbelow 12 (by decide) (by decide) g B A len cap _ H2.out.1).mono ?_
  rintro e v3 ⟨ofs, rfl, _, _, d, g1⟩
  have J3 := Lib.hid (H2.out.after d g1)
  clear d g1 H2
  obtain ⟨x0, x1, x2, x3, x4, x5, x6, x7, x8⟩ := J3.out.2.2.2.1.cells
  have fz := J3.out.2.2.2.1.free
  dsimp only at x0 x1 x2 x3 x4 x5 x6 x7 x8
  go_upto_region 4 with fail
  have H3 := Lib.hid (J3.out.st2 ofs)
  clear x0 x1 x2 x3 x4 x5 x6 x7 x8 fz J3
  generalize v3.setCell ⟨w1.heap.size, 2, none⟩ (.int .i64 ofs) = w3 at *
  go_wp2_with fail
  refine (d4data 6 (by decide) g B A len cap _ H3.out.1).mono ?_
  rintro e v4 ⟨dl, rfl, hdl, d, g1⟩
  have J4 := Lib.hid (H3.out.after d g1)
  clear d g1 H3
  obtain ⟨x0, x1, x2, x3, x4, x5, x6, x7, x8⟩ := J4.out.2.2.2.1.cells
  have fz := J4.out.2.2.2.1.free
  dsimp only at x0 x1 x2 x3 x4 x5 x6 x7 x8
  go_upto_region 5 with fail
  have H4 := Lib.hid (J4.out.st3 ⟨dl.toArray⟩)
  clear x0 x1 x2 x3 x4 x5 x6 x7 x8 fz J4
  generalize v4.setCell ⟨w1.heap.size, 3, none⟩ (.string ⟨dl.toArray⟩) = w4 at *
  go_wp2_with fail
  refine (donce 4 (by decide) (by decide) g B A len cap _ H4.out.1).mono ?_
  rintro e v5 ⟨fi, rfl, d, g1⟩
  have J5 := Lib.hid (H4.out.after d g1)
  clear d g1 H4
  obtain ⟨x0, x1, x2, x3, x4, x5, x6, x7, x8⟩ := J5.out.2.2.2.1.cells
  have fz := J5.out.2.2.2.1.free
  dsimp only at x0 x1 x2 x3 x4 x5 x6 x7 x8
  go_upto_region 6 with fail
  have H5 := Lib.hid (J5.out.st4 fi)
  clear x0 x1 x2 x3 x4 x5 x6 x7 x8 fz J5
  generalize v5.setCell ⟨w1.heap.size, 4, none⟩ (.bool fi) = w5 at *
  go_wp2_with fail
  refine (dbelow 5 (by decide) (by decide) g B A len cap _ H5.out.1).mono ?_
  rintro e v6 ⟨co, rfl, _, _, d, g1⟩
  have J6 := Lib.hid (H5.out.after d g1)
  clear d g1 H5
  obtain ⟨x0, x1, x2, x3, x4, x5, x6, x7, x8⟩ := J6.out.2.2.2.1.cells
  have fz := J6.out.2.2.2.1.free
  dsimp only at x0 x1 x2 x3 x4 x5 x6 x7 x8
  go_upto_region 7 with fail
  have H6 := Lib.hid (J6.out.st5 co)
  clear x0 x1 x2 x3 x4 x5 x6 x7 x8 fz J6
  generalize v6.setCell ⟨w1.heap.size, 5, none⟩ (.int .i64 co) = w6 at *
  go_wp2_with fail
  refine (dbelow 40 (by decide) (by decide) g B A len cap _ H6.out.1).mono ?_
  rintro e v7 ⟨li, rfl, _, _, d, g1⟩
  have J7 := Lib.hid (H6.out.after d g1)
  clear d g1 H6
  obtain ⟨x0, x1, x2, x3, x4, x5, x6, x7, x8⟩ := J7.out.2.2.2.1.cells
  have fz := J7.out.2.2.2.1.free
  dsimp only at x0 x1 x2 x3 x4 x5 x6 x7 x8
  go_upto_region 8 with fail
  have H7 := Lib.hid (J7.out.st6 li)
  clear x0 x1 x2 x3 x4 x5 x6 x7 x8 fz J7
  generalize v7.setCell ⟨w1.heap.size, 6, none⟩ (.int .i64 li) = w7 at *
  go_wp2_with fail
  refine (dbelow 14 (by decide) (by decide) g B A len cap _ H7.out.1).mono ?_
  rintro e v8 ⟨fl, rfl, _, _, d, g1⟩
  have J8 := Lib.hid (H7.out.after d g1)
  clear d g1 H7
  obtain ⟨x0, x1, x2, x3, x4, x5, x6, x7, x8⟩ := J8.out.2.2.2.1.cells
  have fz := J8.out.2.2.2.1.free
  dsimp only at x0 x1 x2 x3 x4 x5 x6 x7 x8
  go_upto_region 9 with fail
  have H8 := Lib.hid (J8.out.st7 fl)
  clear x0 x1 x2 x3 x4 x5 x6 x7 x8 fz J8
  generalize v8.setCell ⟨w1.heap.size, 7, none⟩ (.int .i64 fl) = w8 at *
  go_wp2_with fail
  refine (donce 2 (by decide) (by decide) g B A len cap _ H8.out.1).mono ?_
  rintro e v9 ⟨un, rfl, d, g1⟩
  have J9 := Lib.hid (H8.out.after d g1)
  clear d g1 H8
  obtain ⟨x0, x1, x2, x3, x4, x5, x6, x7, x8⟩ := J9.out.2.2.2.1.cells
  have fz := J9.out.2.2.2.1.free
  dsimp only at x0 x1 x2 x3 x4 x5 x6 x7 x8
  go_upto_region 10 with fail
  have H9 := Lib.hid (J9.out.st8 un)
  clear x0 x1 x2 x3 x4 x5 x6 x7 x8 fz J9
  generalize v9.setCell ⟨w1.heap.size, 8, none⟩ (.bool un) = w9 at *
  obtain ⟨x0, x1, x2, x3, x4, x5, x6, x7, x8⟩ := H9.out.2.2.2.1.cells
  have fz := H9.out.2.2.2.1.free
  dsimp only at x0 x1 x2 x3 x4 x5 x6 x7 x8
  have HU := Lib.hid (sused ⟨k, st, ofs, ⟨dl.toArray⟩, fi, co, li, fl, un⟩)
  go_wp2_with fail
  refine (HU.out _).mono ?_
  rintro e wu ⟨rfl, hbu⟩
  have HF := Lib.hid (H9.out.below hbu)
  have hsz : (usedF ⟨k, st, ofs, ⟨dl.toArray⟩, fi, co, li, fl, un⟩).data.size ≤ 6 := Nat.le_trans (usedF_size _) (by show (ByteArray.mk dl.toArray).size ≤ 6; exact hdl)
  clear hbu HU x0 x1 x2 x3 x4 x5 x6 x7 x8 fz
  generalize usedF ⟨k, st, ofs, ⟨dl.toArray⟩, fi, co, li, fl, un⟩ = u at *
  obtain ⟨r0, r1, r2, r3, r4, r5, r6, r7, r8⟩ := HF.out.2.2.1.cells
  have rz := HF.out.2.2.1.free
  go_wp2
  refine bodyPost_ret (results_cell_row rfl _ _ w.heap.size _ _ _ _ rfl (HF.out.2.2.1.all u) Tryd.underlying25 rfl (by kernel_rfl)) rfl ?_
  exact ⟨u, rfl, hsz, setAll_draw HF.out.1 hgs u, setAll_only HF.out.2.1 (Nat.le_refl _) u⟩

set_option maxRecDepth 100000 in
set_option maxHeartbeats 2000000 in
/-- spec.l4Any -/
theorem d4any (g B : Nat) (A : Option Addr) (len cap : Nat) (w : World) (d : Draw w g B A len cap) :
    Calls Tryd.prog 41 #[.pointer (some ⟨g, 0, none⟩)] w (FrDP g B A len cap w) := by
  have hgs := d.lt
  have D0 := Lib.hid (d.alloc (.cells (frC fr0) 25))
  have G0 := Lib.hid (only_alloc (World.grownBy.refl w (some g)) (.cells (frC fr0) 25))
  have X0 := Lib.hid (BoxF.new w fr0)
  clear d
  go_enter Tryd.func41, Tryd.ntmps41
  go_wp2_with fail
  refine (d4frame g B A len cap _ D0.out).mono ?_
  rintro e w1 ⟨⟨k, st, ofs, dt, fi, co, li, fl, un⟩, rfl, hdt, d1, g1⟩
  have D1 := Lib.hid d1
  have G1 := Lib.hid (only_trans G0.out g1)
  have X1 : Hid (BoxF w1 w.heap.size fr0) := Lib.hid (BoxF.only X0.out g1 (by omega))
  clear d1 g1
  have hw1 : w.heap.size < w1.heap.size := X1.out.lt
  have H1 : Hid (HeldD w g B A len cap w.heap.size w1.heap.size ⟨k, st, ofs, dt, fi, co, li, fl, un⟩ (w1.alloc (.cells (frC ⟨k, st, ofs, dt, fi, co, li, fl, un⟩) 25))) := Lib.hid
    ⟨D1.out.alloc _, only_alloc G1.out _, X1.out.alloc _, BoxF.new w1 _, hgs, hw1, Nat.le_refl _⟩
  clear D0 G0 X0 D1 G1 X1
  go_wp2_with fail
  refine (dbelow 14 (by decide) (by decide) g B A len cap _ H1.out.1).mono ?_
  rintro e w2 ⟨z, rfl, z0, z1, d, g1⟩
  have H2 := Lib.hid (H1.out.after d g1)
  have hw2 : w1.heap.size < w2.heap.size := H2.out.2.2.2.1.lt
  clear d g1 H1
  by_cases hz0 : z = 0
  · have hq0 : (z == 0) = true := by simpa using hz0
    clear hz0 z0 z1
    have HR := Lib.hid (row_cells w2 [-1, 0, 6, 9, 19, 24] (by decide))
    go_wp2_with fail
    refine (dpick w2.heap.size 6 (by decide) (by decide) g B A len cap _ (H2.out.alloc _).1 (by omega) (by simp) HR.out).mono ?_
    rintro e w3 ⟨v, rfl, _, _, d, g1⟩
    have H3 := Lib.hid ((H2.out.alloc _).after d g1)
    clear d g1 HR
    obtain ⟨x0, x1, x2, x3, x4, x5, x6, x7, x8⟩ := H3.out.2.2.2.1.cells
    have fz := H3.out.2.2.2.1.free
    dsimp only at x0 x1 x2 x3 x4 x5 x6 x7 x8
    go_upto_region 11 with fail
    have H4 := Lib.hid (H3.out.st0 v)
    clear x0 x1 x2 x3 x4 x5 x6 x7 x8 fz H3
    generalize w3.setCell ⟨w1.heap.size, 0, none⟩ (.int .i64 v) = w4 at *
    obtain ⟨x0, x1, x2, x3, x4, x5, x6, x7, x8⟩ := H4.out.2.2.2.1.cells
    have fz := H4.out.2.2.2.1.free
    dsimp only at x0 x1 x2 x3 x4 x5 x6 x7 x8
    obtain ⟨r0, r1, r2, r3, r4, r5, r6, r7, r8⟩ := H4.out.2.2.1.cells
    have rz := H4.out.2.2.1.free
    go_wp2
    refine bodyPost_ret (results_cell_row rfl _ _ w.heap.size _ _ _ _ rfl (H4.out.2.2.1.all ⟨v, st, ofs, dt, fi, co, li, fl, un⟩) Tryd.underlying25 rfl (by kernel_rfl)) rfl ?_
    exact ⟨⟨v, st, ofs, dt, fi, co, li, fl, un⟩, rfl, hdt, setAll_draw H4.out.1 hgs ⟨v, st, ofs, dt, fi, co, li, fl, un⟩, setAll_only H4.out.2.1 (Nat.le_refl _) ⟨v, st, ofs, dt, fi, co, li, fl, un⟩⟩
  have hq0 : (z == 0) = false := by simpa using hz0
  by_cases hz1 : z = 1
  · have hq1 : (z == 1) = true := by simpa using hz1
    clear hz0
    clear hz1 z0 z1
    have HR := Lib.hid (row_cells w2 [-1, 1, 1152921504606846976, 1152921504606846977, 4611686018427387903, 4611686018427387904] (by decide))
    go_wp2_with fail
    refine (dpick w2.heap.size 6 (by decide) (by decide) g B A len cap _ (H2.out.alloc _).1 (by omega) (by simp) HR.out).mono ?_
    rintro e w3 ⟨v, rfl, _, _, d, g1⟩
    have H3 := Lib.hid ((H2.out.alloc _).after d g1)
    clear d g1 HR
    obtain ⟨x0, x1, x2, x3, x4, x5, x6, x7, x8⟩ := H3.out.2.2.2.1.cells
    have fz := H3.out.2.2.2.1.free
    dsimp only at x0 x1 x2 x3 x4 x5 x6 x7 x8
    go_upto_region 11 with fail
    have H4 := Lib.hid (H3.out.st6 v)
    clear x0 x1 x2 x3 x4 x5 x6 x7 x8 fz H3
    generalize w3.setCell ⟨w1.heap.size, 6, none⟩ (.int .i64 v) = w4 at *
    obtain ⟨x0, x1, x2, x3, x4, x5, x6, x7, x8⟩ := H4.out.2.2.2.1.cells
    have fz := H4.out.2.2.2.1.free
    dsimp only at x0 x1 x2 x3 x4 x5 x6 x7 x8
    obtain ⟨r0, r1, r2, r3, r4, r5, r6, r7, r8⟩ := H4.out.2.2.1.cells
    have rz := H4.out.2.2.1.free
    go_wp2
    refine bodyPost_ret (results_cell_row rfl _ _ w.heap.size _ _ _ _ rfl (H4.out.2.2.1.all ⟨k, st, ofs, dt, fi, co, v, fl, un⟩) Tryd.underlying25 rfl (by kernel_rfl)) rfl ?_
    exact ⟨⟨k, st, ofs, dt, fi, co, v, fl, un⟩, rfl, hdt, setAll_draw H4.out.1 hgs ⟨k, st, ofs, dt, fi, co, v, fl, un⟩, setAll_only H4.out.2.1 (Nat.le_refl _) ⟨k, st, ofs, dt, fi, co, v, fl, un⟩⟩
  have hq1 : (z == 1) = false := by simpa using hz1
  by_cases hz2 : z = 2
  · have hq2 : (z == 2) = true := by simpa using hz2
    clear hz0
    clear hz1
    clear hz2 z0 z1
    have HR := Lib.hid (row_cells w2 [-1, 70, 4611686018427387900, 4611686018427387903] (by decide))
    go_wp2_with fail
    refine (dpick w2.heap.size 4 (by decide) (by decide) g B A len cap _ (H2.out.alloc _).1 (by omega) (by simp) HR.out).mono ?_
    rintro e w3 ⟨v, rfl, _, _, d, g1⟩
    have H3 := Lib.hid ((H2.out.alloc _).after d g1)
    clear d g1 HR
    obtain ⟨x0, x1, x2, x3, x4, x5, x6, x7, x8⟩ := H3.out.2.2.2.1.cells
    have fz := H3.out.2.2.2.1.free
    dsimp only at x0 x1 x2 x3 x4 x5 x6 x7 x8
    go_upto_region 11 with fail
    have H4 := Lib.hid (H3.out.st2 v)
    clear x0 x1 x2 x3 x4 x5 x6 x7 x8 fz H3
    generalize w3.setCell ⟨w1.heap.size, 2, none⟩ (.int .i64 v) = w4 at *
    obtain ⟨x0, x1, x2, x3, x4, x5, x6, x7, x8⟩ := H4.out.2.2.2.1.cells
    have fz := H4.out.2.2.2.1.free
    dsimp only at x0 x1 x2 x3 x4 x5 x6 x7 x8
    obtain ⟨r0, r1, r2, r3, r4, r5, r6, r7, r8⟩ := H4.out.2.2.1.cells
    have rz := H4.out.2.2.1.free
    go_wp2
    refine bodyPost_ret (results_cell_row rfl _ _ w.heap.size _ _ _ _ rfl (H4.out.2.2.1.all ⟨k, st, v, dt, fi, co, li, fl, un⟩) Tryd.underlying25 rfl (by kernel_rfl)) rfl ?_
    exact ⟨⟨k, st, v, dt, fi, co, li, fl, un⟩, rfl, hdt, setAll_draw H4.out.1 hgs ⟨k, st, v, dt, fi, co, li, fl, un⟩, setAll_only H4.out.2.1 (Nat.le_refl _) ⟨k, st, v, dt, fi, co, li, fl, un⟩⟩
  have hq2 : (z == 2) = false := by simpa using hz2
  by_cases hz3 : z = 3
  · have hq3 : (z == 3) = true := by simpa using hz3
    clear hz0
    clear hz1
    clear hz2
    clear hz3 z0 z1
    have HR := Lib.hid (row_cells w2 [-1, 64, 4611686018427387903, 4611686018427387904] (by decide))
    go_wp2_with fail
    refine (dpick w2.heap.size 4 (by decide) (by decide) g B A len cap _ (H2.out.alloc _).1 (by omega) (by simp) HR.out).mono ?_
    rintro e w3 ⟨v, rfl, _, _, d, g1⟩
    have H3 := Lib.hid ((H2.out.alloc _).after d g1)
    clear d g1 HR
    obtain ⟨x0, x1, x2, x3, x4, x5, x6, x7, x8⟩ := H3.out.2.2.2.1.cells
    have fz := H3.out.2.2.2.1.free
    dsimp only at x0 x1 x2 x3 x4 x5 x6 x7 x8
    go_upto_region 11 with fail
    have H4 := Lib.hid (H3.out.st1 v)
    clear x0 x1 x2 x3 x4 x5 x6 x7 x8 fz H3
    generalize w3.setCell ⟨w1.heap.size, 1, none⟩ (.int .i64 v) = w4 at *
    obtain ⟨x0, x1, x2, x3, x4, x5, x6, x7, x8⟩ := H4.out.2.2.2.1.cells
    have fz := H4.out.2.2.2.1.free
    dsimp only at x0 x1 x2 x3 x4 x5 x6 x7 x8
    obtain ⟨r0, r1, r2, r3, r4, r5, r6, r7, r8⟩ := H4.out.2.2.1.cells
    have rz := H4.out.2.2.1.free
    go_wp2
    refine bodyPost_ret (results_cell_row rfl _ _ w.heap.size _ _ _ _ rfl (H4.out.2.2.1.all ⟨k, v, ofs, dt, fi, co, li, fl, un⟩) Tryd.underlying25 rfl (by kernel_rfl)) rfl ?_
    exact ⟨⟨k, v, ofs, dt, fi, co, li, fl, un⟩, rfl, hdt, setAll_draw H4.out.1 hgs ⟨k, v, ofs, dt, fi, co, li, fl, un⟩, setAll_only H4.out.2.1 (Nat.le_refl _) ⟨k, v, ofs, dt, fi, co, li, fl, un⟩⟩
  have hq3 : (z == 3) = false := by simpa using hz3
  clear hz0 hz1 hz2 hz3 z0 z1
  obtain ⟨x0, x1, x2, x3, x4, x5, x6, x7, x8⟩ := H2.out.2.2.2.1.cells
  have fz := H2.out.2.2.2.1.free
  dsimp only at x0 x1 x2 x3 x4 x5 x6 x7 x8
  obtain ⟨r0, r1, r2, r3, r4, r5, r6, r7, r8⟩ := H2.out.2.2.1.cells
  have rz := H2.out.2.2.1.free
  go_wp2
  refine bodyPost_ret (results_cell_row rfl _ _ w.heap.size _ _ _ _ rfl (H2.out.2.2.1.all ⟨k, st, ofs, dt, fi, co, li, fl, un⟩) Tryd.underlying25 rfl (by kernel_rfl)) rfl ?_
  exact ⟨⟨k, st, ofs, dt, fi, co, li, fl, un⟩, rfl, hdt, setAll_draw H2.out.1 hgs ⟨k, st, ofs, dt, fi, co, li, fl, un⟩, setAll_only H2.out.2.1 (Nat.le_refl _) ⟨k, st, ofs, dt, fi, co, li, fl, un⟩⟩

end Go.Proofs.YtjbppociogoopaaDoor

namespace Go.Proofs.YtjbppociogoopaaDoor
open Go.RowKit Go.Deep Go.Proofs.YtjbppociogoopaaDoor.Num

/-- A list of frames comes back; of what was there only the cursor has changed. -/
def ListFP (most : Nat) (g B : Nat) (A : Option Addr) (len cap : Nat) (w : World) (e : Ending) (w' : World) : Prop :=
  ∃ (v : Value) (l : List Fr), e = .returned v ∧ OwnF w' w.heap.size v l ∧ l.length ≤ most ∧ Draw w' g B A len cap ∧ w.grownBy w' (some g)
/-- A frame comes back; nothing that was there has changed. -/
def FrameP (w : World) (e : Ending) (w' : World) : Prop := ∃ f : Fr, e = .returned (frV f) ∧ f.data.size ≤ 6 ∧ Below w.heap.size w w'

set_option maxRecDepth 100000 in
set_option maxHeartbeats 800000 in
/-- spec.l4Frames -/
theorem d4frames (g B : Nat) (A : Option Addr) (len cap : Nat) (w : World) (d : Draw w g B A len cap) :
    Calls Tryd.prog 63 #[.pointer (some ⟨g, 0, none⟩)] w (ListFP 4 g B A len cap w) := by
  have hlt := d.lt
  have D0 := Lib.hid (d.alloc (.cells #[] 25))
  have G0 := Lib.hid (only_alloc (World.grownBy.refl w (some g)) (.cells #[] 25))
  have O0 := Lib.hid (OwnF.lit w w.heap.size 0 #[] (Nat.le_refl _) (by decide) rfl)
  clear d
  go_enter Tryd.func63, Tryd.ntmps63
  go_wp2_with fail
  refine (dbelow 5 (by decide) (by decide) g B A len cap _ D0.out).mono ?_
  rintro e w2 ⟨n, rfl, n0, n1, d2, g2⟩
  have D2 := Lib.hid d2
  have G2 := Lib.hid (only_trans G0.out g2)
  have O2 := Lib.hid (O0.out.only g2 hlt)
  clear d2 g2 D0 G0 O0
  obtain ⟨m, rfl⟩ := Int.eq_ofNat_of_zero_le n0
  go_wp2_with fail
  go_loopw [3, 4] (fun v x wr => ∃ (k : Nat) (l : List Fr), x = .int .i64 k ∧ l.length + k ≤ 4 ∧ OwnF wr w.heap.size v l ∧ Draw wr g B A len cap ∧ w.grownBy wr (some g)) (fun _ x _ => (intOf x).toNat)
  case atStart => exact ⟨m, [], rfl, by simp; omega, O2.out, D2.out, G2.out⟩
  case round =>
    obtain ⟨k, l, rfl, hk, hown, hd, hgr⟩ := hrel
    have HO := Lib.hid hown
    have HD := Lib.hid hd
    have HG := Lib.hid hgr
    clear hown hd hgr
    by_cases hk0 : 0 < k
    · obtain ⟨k, rfl⟩ : ∃ j, k = j + 1 := ⟨k - 1, by omega⟩
      go_wp2_with fail
      refine (d4frame g B A len cap _ HD.out).mono ?_
      rintro e w3 ⟨x, rfl, hx, d3, g3⟩
      have D3 := Lib.hid (d3.alloc (.cells (frC x) 25))
      have O3 := Lib.hid ((HO.out.only g3 hlt).alloc (.cells (frC x) 25))
      have G3 := Lib.hid (only_alloc (only_trans HG.out g3) (.cells (frC x) 25))
      have HX := Lib.hid (frs_one w3 x 25)
      have hs3 := G3.out.size
      clear d3 g3 hx
      go_wp2_with (at_builtin; refine wpList_append_fr _ rfl _ _ rfl w.heap.size _ l rfl O3.out w3.heap.size 0 1 1 (w3.heap.size + 1) [x] rfl rfl HX.out ?c1 ?c2 ?_)
      case c1 => omega
      case c2 => exact hs3
      intro v' w4 ho4 hb4
      have O4 := Lib.hid ho4
      have D4 := Lib.hid (D3.out.below hlt hb4)
      have G4 := Lib.hid (only_then G3.out hb4)
      clear ho4 hb4
      go_wp2
      go_roundw
      case rel => exact ⟨k, l ++ [x], by go_num, by simp; omega, O4.out, D4.out, G4.out⟩
      case measure => simp [intOf]
    · go_wp2
      go_ret
      exact ⟨_, l, rfl, HO.out, by omega, HD.out, HG.out⟩

set_option maxRecDepth 100000 in
/-- spec.DrawEncodeFrame -/
theorem draw_encf (A : Option Addr) (len cap : Nat) (w : World) (hlen : len ≤ maxLen) (hcode : Code w w.heap.size A len) :
    Calls Tryd.prog 11 #[.slice A len cap] w (FrameP w) := by
  have B0 := Lib.hid ((Below.refl w.heap.size w).alloc (Nat.le_refl _) (.cells (frC fr0) 25))
  have X0 := Lib.hid (BoxF.new w fr0)
  have hk0 : w.heap.size < (w.alloc (.cells (frC fr0) 25)).heap.size := by simp
  have HC := Lib.hid (Code.later hcode B0.out)
  clear hcode
  go_enter Tryd.func11, Tryd.ntmps11
  go_wp2_with fail
  refine (dnew A len cap _ hlen HC.out).mono ?_
  rintro e w1 ⟨g, rfl, hg, d1, b1⟩
  have D1 := Lib.hid d1
  have B1 := Lib.hid (B0.out.trans (b1.mono (Nat.le_of_lt hk0)))
  have X1 : Hid (BoxF w1 w.heap.size fr0) := Lib.hid ((b1.block _ hk0).trans X0.out)
  have hlt := d1.lt
  have hwg : w.heap.size < g := by omega
  clear d1 b1
  go_wp2_with fail
  refine (d4any g _ A len cap _ D1.out).mono ?_
  rintro e w2 ⟨f, rfl, hf, d2, g2⟩
  have B2 := Lib.hid (B1.out.trans (only_below g2 (Nat.le_of_lt hwg) B1.out.size))
  have X2 : Hid (BoxF w2 w.heap.size fr0) := Lib.hid (BoxF.only X1.out g2 (by omega))
  clear d2 g2
  obtain ⟨r0, r1, r2, r3, r4, r5, r6, r7, r8⟩ := X2.out.cells
  have rz := X2.out.free
  go_wp2
  refine bodyPost_ret (results_cell_row rfl _ _ w.heap.size _ _ _ _ rfl (X2.out.all f) Tryd.underlying25 rfl (by kernel_rfl)) rfl ?_
  exact ⟨f, rfl, hf, setAll_below B2.out (Nat.le_refl _) f⟩

/-- spec.DrawKindName -/
theorem draw_name (A : Option Addr) (len cap : Nat) (w : World) (hlen : len ≤ maxLen) (hcode : Code w w.heap.size A len) :
    Calls Tryd.prog 20 #[.slice A len cap] w (IntP w) := by
  have HC := Lib.hid hcode
  clear hcode
  go_enter Tryd.func20, Tryd.ntmps20
  go_wp2_with fail
  refine (dnew A len cap _ hlen HC.out).mono ?_
  rintro e w1 ⟨g, rfl, hg, d1, b1⟩
  have D1 := Lib.hid d1
  have B1 := Lib.hid b1
  clear d1 b1
  go_wp2_with fail
  refine (dbelow 26 (by decide) (by decide) g _ A len cap _ D1.out).mono ?_
  rintro e w2 ⟨x, rfl, x0, x1, d2, g2⟩
  have B2 := Lib.hid (B1.out.trans (only_below g2 (by omega) B1.out.size))
  have hw : wrap64 (x - 1) = x - 1 := by unfold wrap64; omega
  clear d2 g2
  go_wp2
  go_ret
  exact ⟨x - 1, rfl, by omega, by omega, B2.out⟩
end Go.Proofs.YtjbppociogoopaaDoor

namespace Go.Proofs.YtjbppociogoopaaDoor
open Go.RowKit Go.Deep Go.Proofs.YtjbppociogoopaaDoor.Num

/-- A list of frames comes back; nothing that was there has changed. -/
def FramesP (w : World) (e : Ending) (w' : World) : Prop := ∃ (A : Option Addr) (cap : Nat) (l : List Fr), e = .returned (.slice A l.length cap) ∧ l.length ≤ 5 ∧ Frs w' w'.heap.size A l ∧ Below w.heap.size w w'

set_option maxRecDepth 100000 in
/-- spec.DrawEncodePayload -/
theorem draw_encp (A : Option Addr) (len cap : Nat) (w : World) (hlen : len ≤ maxLen) (hcode : Code w w.heap.size A len) :
    Calls Tryd.prog 25 #[.slice A len cap] w (FramesP w) := by
  have HC := Lib.hid hcode
  clear hcode
  go_enter Tryd.func25, Tryd.ntmps25
  go_wp2_with fail
  refine (dnew A len cap _ hlen HC.out).mono ?_
  rintro e w1 ⟨g, rfl, hg, d1, b1⟩
  have D1 := Lib.hid d1
  have B1 := Lib.hid b1
  have hlt := d1.lt
  clear d1 b1
  go_wp2_with fail
  refine (d4frames g _ A len cap _ D1.out).mono ?_
  rintro e w2 ⟨v, l, rfl, o2, hl, d2, g2⟩
  have D2 := Lib.hid d2
  have O2 := Lib.hid o2
  have B2 := Lib.hid (B1.out.trans (only_below g2 (by omega) B1.out.size))
  have hs2 := g2.size
  clear d2 o2 g2
  go_wp2_with fail
  refine (donce 8 (by decide) (by decide) g _ A len cap _ D2.out).mono ?_
  rintro e w3 ⟨b, rfl, d3, g3⟩
  have D3 := Lib.hid d3
  have O3 := Lib.hid (O2.out.only g3 hlt)
  have B3 := Lib.hid (B2.out.trans (only_below g3 (by omega) B2.out.size))
  have hs3 := g3.size
  clear d3 g3
  cases b with
  | false =>
    obtain ⟨A3, c3, rfl, _, hf3⟩ := O3.out.frs
    have F3 := Lib.hid hf3
    clear hf3
    go_wp2
    go_ret
    exact ⟨A3, c3, l, rfl, by omega, F3.out, B3.out⟩
  | true =>
    go_wp2_with fail
    refine (d4any g _ A len cap _ D3.out).mono ?_
    rintro e w4 ⟨x, rfl, hx, d4, g4⟩
    have O4 := Lib.hid ((O3.out.only g4 hlt).alloc (.cells (frC x) 25))
    have B4 := Lib.hid ((B3.out.trans (only_below g4 (by omega) B3.out.size)).alloc (by have := B3.out.size; have := g4.size; omega) (.cells (frC x) 25))
    have HX := Lib.hid (frs_one w4 x 25)
    have hs4 : w1.heap.size ≤ (w4.alloc (.cells (frC x) 25)).heap.size := by have := g4.size; simp; omega
    clear d4 g4 hx
    go_wp2_with (at_builtin; refine wpList_append_fr _ rfl _ _ rfl w1.heap.size _ l rfl O4.out w4.heap.size 0 1 1 (w4.heap.size + 1) [x] rfl rfl HX.out ?c1 ?c2 ?_)
    case c1 => omega
    case c2 => exact hs4
    intro v' w5 ho5 hb5
    have hw1 := B1.out.size
    have B5 := Lib.hid (B4.out.trans (hb5.mono hw1))
    obtain ⟨A5, c5, rfl, _, hf5⟩ := ho5.frs
    have F5 := Lib.hid hf5
    clear ho5 hb5 hf5
    have hl6 : (l ++ [x]).length = l.length + 1 := by simp
    go_wp2
    go_ret
    exact ⟨A5, c5, l ++ [x], rfl, by omega, F5.out, B5.out⟩
end Go.Proofs.YtjbppociogoopaaDoor

namespace Go.Proofs.YtjbppociogoopaaDoor
open Go.RowKit Go.Deep Go.Proofs.YtjbppociogoopaaDoor.Num

theorem encP_len (l : List Fr) : (encP l).length ≤ 400 := by
  unfold encP
  split
  · rename_i h; exact h.2
  · simp

set_option maxRecDepth 100000 in
set_option maxHeartbeats 1000000 in
/-- spec.DrawDecodePayload -/
theorem draw_decp (A : Option Addr) (len cap : Nat) (w : World) (hlen : len ≤ maxLen) (hcode : Code w w.heap.size A len) :
    Calls Tryd.prog 30 #[.slice A len cap] w (StrP 500 w) := by
  have HC := Lib.hid hcode
  clear hcode
  go_enter Tryd.func30, Tryd.ntmps30
  go_wp2_with fail
  refine (dnew A len cap _ hlen HC.out).mono ?_
  rintro e w1 ⟨g, rfl, hg, d1, b1⟩
  have D1 := Lib.hid d1
  have B1 := Lib.hid b1
  have hlt := d1.lt
  clear d1 b1
  go_wp2_with fail
  refine (d4frames g _ A len cap _ D1.out).mono ?_
  rintro e w2 ⟨v, l, rfl, o2, hl, d2, g2⟩
  have D2 := Lib.hid d2
  have B2 := Lib.hid (B1.out.trans (only_below g2 (by omega) B1.out.size))
  obtain ⟨A2, c2, rfl, _, hf2⟩ := o2.frs
  have HE := Lib.hid (sencp l A2 c2 w2.heap.size w2 (Nat.le_refl _) hf2 (by omega))
  have hbl := encP_len l
  generalize encP l = bs at *
  clear d2 o2 g2 hf2
  go_wp2_with fail
  refine HE.out.mono ?_
  rintro e w3 ⟨rfl, hb3⟩
  have D3 := Lib.hid (D2.out.below D2.out.lt hb3)
  have B3 := Lib.hid (B2.out.trans (hb3.mono B2.out.size))
  clear hb3 HE D1 D2
  go_wp2_with fail
  refine (dbelow 4 (by decide) (by decide) g _ A len cap _ D3.out).mono ?_
  rintro e w4 ⟨z, rfl, z0, z1, d4, g4⟩
  have D4 := Lib.hid d4
  have B4 := Lib.hid (B3.out.trans (only_below g4 (by omega) B3.out.size))
  clear d4 g4 D3
  by_cases e0 : z = 0
  · have q0 : (z == 0) = true := by simpa using e0
    clear e0 z0 z1
    have hbs : (⟨bs.toArray⟩ : ByteArray).size ≤ 400 := by show bs.toArray.size ≤ 400; simpa using hbl
    go_wp2_with fail
    refine (dspoil ⟨bs.toArray⟩ (by omega) g _ A len cap _ D4.out).mono ?_
    rintro e w5 ⟨t, rfl, ht, d5, g5⟩
    have B5 := Lib.hid (B4.out.trans (only_below g5 (by omega) B4.out.size))
    clear d5 g5
    go_wp2
    go_ret
    exact ⟨t, rfl, by omega, B5.out⟩
  have q0 : (z == 0) = false := by simpa using e0
  by_cases e1 : z = 1
  · have q1 : (z == 1) = true := by simpa using e1
    have ha1 : 2 + bs.length ≤ 9223372036854775807 := by omega
    have ha2 : 2 + bs.length + 1 ≤ 9223372036854775807 := by omega
    clear e0 e1 z0 z1
    go_wp2
    go_ret
    exact ⟨[0, 0] ++ bs ++ [0], by first | rfl | (congr 2; apply ByteArray.ext; simp), by simp; omega, B4.out⟩
  have q1 : (z == 1) = false := by simpa using e1
  by_cases e2 : z = 2
  · have q2 : (z == 2) = true := by simpa using e2
    have ha1 : bs.length + 2 ≤ 9223372036854775807 := by omega
    clear e0 e1 e2 z0 z1
    go_wp2_with fail
    refine (d4data 4 (by decide) g _ A len cap _ D4.out).mono ?_
    rintro e w5 ⟨t, rfl, ht, d5, g5⟩
    have B5 := Lib.hid (B4.out.trans (only_below g5 (by omega) B4.out.size))
    have ha2 : bs.length + 2 + t.length ≤ 9223372036854775807 := by omega
    clear d5 g5
    go_wp2
    go_ret
    exact ⟨bs ++ [8, 3] ++ t, by first | rfl | (congr 2; apply ByteArray.ext; simp), by simp; omega, B5.out⟩
  have q2 : (z == 2) = false := by simpa using e2
  clear e0 e1 e2 z0 z1
  go_wp2
  go_ret
  exact ⟨bs, rfl, by omega, B4.out⟩
end Go.Proofs.YtjbppociogoopaaDoor

namespace Go.Proofs.YtjbppociogoopaaDoor
open Go.RowKit Go.Deep Go.Proofs.YtjbppociogoopaaDoor.Num

/-- A string and a place come back; nothing that was there has changed. -/
def PlaceP (w : World) (e : Ending) (w' : World) : Prop := ∃ (l : List UInt8) (n : Int), e = .returned (.tuple #[.string ⟨l.toArray⟩, .int .i64 n]) ∧ l.length ≤ 600 ∧ -1 ≤ n ∧ n ≤ 1 ∧ Below w.heap.size w w'

set_option maxRecDepth 100000 in
set_option maxHeartbeats 1000000 in
/-- spec.DrawDecodeFrame -/
theorem draw_decf (A : Option Addr) (len cap : Nat) (w : World) (hlen : len ≤ maxLen) (hcode : Code w w.heap.size A len) :
    Calls Tryd.prog 18 #[.slice A len cap] w (PlaceP w) := by
  have HC := Lib.hid hcode
  clear hcode
  go_enter Tryd.func18, Tryd.ntmps18
  go_wp2_with fail
  refine (dnew A len cap _ hlen HC.out).mono ?_
  rintro e w1 ⟨g, rfl, hg, d1, b1⟩
  have D1 := Lib.hid d1
  have B1 := Lib.hid b1
  have hlt := d1.lt
  clear d1 b1
  go_wp2_with fail
  refine (dbelow 4 (by decide) (by decide) g _ A len cap _ D1.out).mono ?_
  rintro e w2 ⟨z, rfl, z0, z1, d2, g2⟩
  have D2 := Lib.hid d2
  have B2 := Lib.hid (B1.out.trans (only_below g2 (by omega) B1.out.size))
  clear d2 g2 D1
  by_cases e0 : z = 0
  · have q0 : (z == 0) = true := by simpa using e0
    clear e0 z0 z1
    go_wp2_with fail
    refine (dbytes 9 (by decide) g _ A len cap _ D2.out).mono ?_
    rintro e w3 ⟨t, rfl, ht, d3, g3⟩
    have D3 := Lib.hid d3
    have B3 := Lib.hid (B2.out.trans (only_below g3 (by omega) B2.out.size))
    clear d3 g3
    go_wp2_with fail
    refine (dbelow 3 (by decide) (by decide) g _ A len cap _ D3.out).mono ?_
    rintro e w4 ⟨x, rfl, x0, x1, d4, g4⟩
    have B4 := Lib.hid (B3.out.trans (only_below g4 (by omega) B3.out.size))
    have hw : wrap64 (x - 1) = x - 1 := by unfold wrap64; omega
    clear d4 g4
    go_wp2
    go_ret2
    exact ⟨t, x - 1, rfl, by omega, by omega, by omega, B4.out⟩
  have q0 : (z == 0) = false := by simpa using e0
  by_cases e1 : z = 1
  · have q1 : (z == 1) = true := by simpa using e1
    clear e0 e1 z0 z1
    go_wp2_with fail
    refine (d4any g _ A len cap _ D2.out).mono ?_
    rintro e w3 ⟨f, rfl, hf, d3, g3⟩
    have D3 := Lib.hid d3
    have B3 := Lib.hid (B2.out.trans (only_below g3 (by omega) B2.out.size))
    have HE := Lib.hid (sencf f)
    have hbl := encF_len f
    generalize encF f = bs at *
    clear d3 g3
    go_wp2_with fail
    refine (HE.out _).mono ?_
    rintro e w4 ⟨rfl, hb4⟩
    have D4 := Lib.hid (D3.out.below D3.out.lt hb4)
    have B4 := Lib.hid (B3.out.trans (hb4.mono B3.out.size))
    have hbs : (⟨bs.toArray⟩ : ByteArray).size ≤ 432 := by show bs.toArray.size ≤ 432; simpa using hbl
    clear hb4 HE
    go_wp2_with fail
    refine (dspoil ⟨bs.toArray⟩ (by omega) g _ A len cap _ D4.out).mono ?_
    rintro e w5 ⟨t, rfl, ht, d5, g5⟩
    have B5 := Lib.hid (B4.out.trans (only_below g5 (by omega) B4.out.size))
    clear d5 g5
    go_wp2
    go_ret2
    exact ⟨t, 0, rfl, by omega, by omega, by omega, B5.out⟩
  have q1 : (z == 1) = false := by simpa using e1
  by_cases e2 : z = 2
  · have q2 : (z == 2) = true := by simpa using e2
    clear e0 e1 e2 z0 z1
    have HR := Lib.hid (row_texts 1 w2 [[8], [9], [12], [13], [14]] (by decide))
    go_wp2_with fail
    refine (dpicks 1 w2.heap.size 5 (by decide) (by decide) g _ A len cap _ (D2.out.alloc _) (by have := D2.out.lt; omega) (by simp) HR.out).mono ?_
    rintro e w3 ⟨t1, rfl, ht1, d3, g3⟩
    have D3 := Lib.hid d3
    have B3 := Lib.hid ((B2.out.alloc B2.out.size _).trans (only_below g3 (by omega) (B2.out.alloc B2.out.size _).size))
    clear d3 g3 HR
    go_wp2_with fail
    refine (dbelow 8 (by decide) (by decide) g _ A len cap _ D3.out).mono ?_
    rintro e w4 ⟨x, rfl, x0, x1, d4, g4⟩
    have D4 := Lib.hid d4
    have B4 := Lib.hid (B3.out.trans (only_below g4 (by omega) B3.out.size))
    clear d4 g4
    go_wp2_with fail
    refine (dbelow 9 (by decide) (by decide) g _ A len cap _ D4.out).mono ?_
    rintro e w5 ⟨y, rfl, y0, y1, d5, g5⟩
    have D5 := Lib.hid d5
    have B5 := Lib.hid (B4.out.trans (only_below g5 (by omega) B4.out.size))
    have HE := Lib.hid (senc_lit [x, y] w5 2 rfl (fun u hu => by rw [Ne, qsz_zero]; simp at hu; omega) (by decide))
    have hel := encQs_len [x, y]
    generalize encQs [x, y] = bs at *
    clear d5 g5
    go_wp2_with fail
    refine (HE.out).mono ?_
    rintro e w6 ⟨rfl, hb6⟩
    have D6 := Lib.hid (D5.out.below D5.out.lt hb6)
    have B6 := Lib.hid (B5.out.trans (hb6.mono B5.out.size))
    have hbl : bs.length ≤ 16 := by simpa using hel
    have ha1 : t1.length + bs.length ≤ 9223372036854775807 := by omega
    clear hb6 HE hel
    go_wp2_with fail
    refine (d4data 5 (by decide) g _ A len cap _ D6.out).mono ?_
    rintro e w7 ⟨t, rfl, ht, d7, g7⟩
    have B7 := Lib.hid (B6.out.trans (only_below g7 (by omega) B6.out.size))
    have ha2 : t1.length + bs.length + t.length ≤ 9223372036854775807 := by omega
    clear d7 g7
    go_wp2
    go_ret2
    exact ⟨t1 ++ bs ++ t, 0, by first | rfl | (congr 4; apply ByteArray.ext; simp), by simp; omega, by omega, by omega, B7.out⟩
  have q2 : (z == 2) = false := by simpa using e2
  clear e0 e1 e2 z0 z1
  go_wp2_with fail
  refine (d4any g _ A len cap _ D2.out).mono ?_
  rintro e w3 ⟨f, rfl, hf, d3, g3⟩
  have B3 := Lib.hid (B2.out.trans (only_below g3 (by omega) B2.out.size))
  have HE := Lib.hid (sencf f)
  have hbl := encF_len f
  generalize encF f = bs at *
  clear d3 g3
  go_wp2_with fail
  refine (HE.out _).mono ?_
  rintro e w4 ⟨rfl, hb4⟩
  have B4 := Lib.hid (B3.out.trans (hb4.mono B3.out.size))
  clear hb4
  go_wp2
  go_ret2
  exact ⟨bs, 0, rfl, by omega, by omega, by omega, B4.out⟩
end Go.Proofs.YtjbppociogoopaaDoor

namespace Go.Proofs.YtjbppociogoopaaDoor
open Go.RowKit Go.Deep Go.Proofs.YtjbppociogoopaaDoor.Num

/-- The digits of a number, the highest first. -/
def mdigs (n : Nat) : List UInt8 := if _h : n = 0 then [] else mdigs (n / 10) ++ [UInt8.ofNat (48 + n % 10)]
termination_by n
decreasing_by omega
theorem mdigs_step (n : Nat) (h : n ≠ 0) : mdigs n = mdigs (n / 10) ++ [UInt8.ofNat (48 + n % 10)] := by
  rw [mdigs, dif_neg h]
theorem mdigs_zero : mdigs 0 = [] := by rw [mdigs, dif_pos rfl]
/-- The text. -/
def markT (k : Int) : List UInt8 := if k ≤ 0 then [109, 48] else 109 :: mdigs k.toNat

set_option maxRecDepth 100000 in
set_option maxHeartbeats 1000000 in
/-- laws.markText -/
theorem mtext (k : Nat) (w : World) (hk : k ≤ 1000000000) :
    Calls Tryd.prog 67 #[.int .i64 (k : Int)] w fun e w' => e = .returned (.string ⟨(markT k).toArray⟩) ∧ Below w.heap.size w w' := by
  by_cases h0 : k = 0
  · subst h0
    rw [show markT ((0 : Nat) : Int) = [109, 48] from rfl]
    go_enter Tryd.func67, Tryd.ntmps67
    go_wp2
    go_ret
    exact ⟨rfl, Below.refl _ _⟩
  · have hd : decide ((k : Int) ≤ 0) = false := decide_eq_false (by omega)
    have hT : markT (k : Int) = 109 :: mdigs k := by unfold markT; rw [if_neg (by omega), Int.toNat_natCast]
    rw [hT]
    clear hT
    go_enter Tryd.func67, Tryd.ntmps67
    go_wp2
    go_loopw [3, 0] (fun v i wr => ∃ (n : Nat) (o : List UInt8), i = .int .i64 (n : Int) ∧ v = .string ⟨o.toArray⟩ ∧ n ≤ 1000000000 ∧ o.length + n ≤ 1000000000 ∧ mdigs k = mdigs n ++ o ∧ Below w.heap.size w wr) (fun _ i _ => (intOf i).toNat)
    case atStart => exact ⟨k, [], rfl, rfl, hk, by simpa using hk, by simp, Below.refl _ _⟩
    case round =>
      obtain ⟨n, o, rfl, rfl, hn, hol, hm, hb⟩ := hrel
      have HM := Lib.hid hm
      have HB := Lib.hid hb
      clear hm hb hd h0
      by_cases hz : n = 0
      · subst hz
        have HD : Hid (mdigs k = o) := Lib.hid (by rw [HM.out, mdigs_zero]; rfl)
        have ha : 1 + o.length ≤ 9223372036854775807 := by omega
        go_wp2
        go_ret
        exact ⟨by rw [HD.out]; first | rfl | (congr 2; apply ByteArray.ext; simp), HB.out⟩
      · have hd : decide (0 < (n : Int)) = true := decide_eq_true (by omega)
        have HS : Hid (mdigs k = mdigs (n / 10) ++ ([UInt8.ofNat (48 + n % 10)] ++ o)) := Lib.hid (by rw [HM.out, mdigs_step n hz, List.append_assoc])
        have hcv := conv_one wr (48 + n % 10) (by omega)
        rw [show ((48 + n % 10 : Nat) : Int) = 48 + (n : Int) % 10 by omega] at hcv
        have HB1 := Lib.hid (HB.out.alloc HB.out.size (.cells #[.int .u8 (48 + (n : Int) % 10)] 5))
        have ha : 1 + o.length ≤ 9223372036854775807 := by omega
        have hdec : n / 10 < n := by omega
        have hn1 : 0 < n := by omega
        clear hz HM
        go_wp2
        go_roundw
        case rel => exact ⟨n / 10, [UInt8.ofNat (48 + n % 10)] ++ o, by first | rfl | go_num | (congr 1; omega), by first | rfl | (congr 1; apply ByteArray.ext; simp), by omega, by simp; omega, HS.out, HB1.out⟩
        case measure => simp [intOf]; omega
end Go.Proofs.YtjbppociogoopaaDoor

namespace Go.Proofs.YtjbppociogoopaaDoor
open Go.RowKit Go.Deep Go.Proofs.YtjbppociogoopaaDoor.Num

theorem big_yes (A : Option Addr) (len cap : Nat) (w : World) (h : 1048576 < len) (hl : len ≤ maxLen) :
    Calls Tryd.prog 10 #[.slice A len cap] w fun e w' => e = .returned (.bool true) ∧ w = w' := by
  unfold maxLen at hl
  have hd : decide ((1048576 : Int) < (len : Int)) = true := decide_eq_true (by omega)
  go_enter Tryd.func10, Tryd.ntmps10
  go_wp2
  go_ret
  exact ⟨rfl, rfl⟩
theorem big_no (A : Option Addr) (len cap : Nat) (w : World) (h : len ≤ 1048576) :
    Calls Tryd.prog 10 #[.slice A len cap] w fun e w' => e = .returned (.bool false) ∧ w = w' := by
  have hd : decide ((1048576 : Int) < (len : Int)) = false := decide_eq_false (by omega)
  go_enter Tryd.func10, Tryd.ntmps10
  go_wp2
  go_ret
  exact ⟨rfl, rfl⟩
end Go.Proofs.YtjbppociogoopaaDoor

namespace Go.Proofs.YtjbppociogoopaaDoor
open Go.RowKit Go.Deep Go.Proofs.YtjbppociogoopaaDoor.Num

theorem code_of_row {w : World} {a : Option Addr} {len cap : Nat} {zs : List Int}
    (h : (a = none ∧ len = 0 ∧ cap = 0 ∧ zs = []) ∨
      ∃ x, a = some x ∧ len ≤ cap ∧ cap ≤ maxLen ∧ zs.length = cap ∧ (∀ i, i < zs.length → w.cell? (x.add i) = some (.int .u8 (zs.getD i 0))) ∧ ∀ n ∈ zs, (Lit.int .u8 n).wf = true) :
    len ≤ maxLen ∧ Code w w.heap.size a len := by
  rcases h with ⟨rfl, rfl, _, _⟩ | ⟨x, rfl, hl, hm, hz, hc, hw⟩
  · exact ⟨by decide, fun j hj => absurd hj (by omega)⟩
  · refine ⟨Nat.le_trans hl hm, fun j hj => ?_⟩
    obtain ⟨b, off, spot⟩ := x
    have hs : spot = none := by simpa [Addr.add] using World.cell?_spot (hc 0 (by omega))
    subst hs
    have h0 := hc j (by omega)
    have e : (⟨b, off, none⟩ : Addr).add j = ⟨b, off + j, none⟩ := by
      unfold Addr.add
      split <;> simp_all
    rw [e] at h0
    have hj' : j < zs.length := by omega
    have hwf := hw (zs.getD j 0) (by rw [show zs.getD j 0 = zs[j] from by simp [List.getD, hj']]; exact List.getElem_mem hj')
    have hb : 0 ≤ zs.getD j 0 ∧ zs.getD j 0 ≤ 255 := by
      simp [Lit.wf, IntKind.min, IntKind.max, IntKind.signed, IntKind.bits] at hwf
      simp
      omega
    exact ⟨b, off, _, rfl, block_lt_of_cell h0, hb.1, hb.2, h0⟩
end Go.Proofs.YtjbppociogoopaaDoor
