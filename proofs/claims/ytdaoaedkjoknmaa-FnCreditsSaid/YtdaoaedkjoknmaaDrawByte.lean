/-
  What spec.l1Byte returns: a number from 0 to 255; it writes into its cursor alone.
-/
import Derived.Test.YtdaoaedkjoknmaaBytes
import Derived.Deep.QuietTactic
import Derived.BigQuiet
namespace Go.Proofs.Ytdaoaedkjoknmaa
open Go.RowKit Go.Deep Go.Proofs.Ytdaoaedkjoknmaa.Num

/-- Block g is the cursor over the slice A of len bytes, at place i. -/
def Cur (w : World) (g : Nat) (A : Option Addr) (len cap i : Nat) (h : Int) : Prop := w.heap[g]? = some (.cells #[.slice A len cap, .int .i64 (i : Int), .int .i64 h] 51 (0, 0))
theorem Cur.lt {w : World} {g : Nat} {A : Option Addr} {len cap i : Nat} {h : Int} (c : Cur w g A len cap i h) : g < w.heap.size := (Array.getElem?_eq_some_iff.1 c).1
theorem Cur.cell {w : World} {g : Nat} {A : Option Addr} {len cap i : Nat} {h : Int} (c : Cur w g A len cap i h) (k : Nat) : w.cell? ⟨g, k, none⟩ = (#[.slice A len cap, .int .i64 (i : Int), .int .i64 h] : Array Value)[k]? := cell_of_row w g k _ _ _ c
theorem Cur.free {w : World} {g : Nat} {A : Option Addr} {len cap i : Nat} {h : Int} (c : Cur w g A len cap i h) (k : Nat) : w.frozen? ⟨g, k, none⟩ = false := by
  unfold Cur at c
  simp [World.frozen?, c]
theorem Cur.set1 {w : World} {g : Nat} {A : Option Addr} {len cap i : Nat} {h : Int} (c : Cur w g A len cap i h) (i' : Nat) : Cur (w.setCell ⟨g, 1, none⟩ (.int .i64 (i' : Int))) g A len cap i' h := by
  unfold Cur at c ⊢
  simp [World.setCell, Array.getElem?_modify, c]
theorem Cur.set2 {w : World} {g : Nat} {A : Option Addr} {len cap i : Nat} {h : Int} (c : Cur w g A len cap i h) (h' : Int) : Cur (w.setCell ⟨g, 2, none⟩ (.int .i64 h')) g A len cap i h' := by
  unfold Cur at c ⊢
  simp [World.setCell, Array.getElem?_modify, c]
theorem Cur.drewN {w : World} {g : Nat} {A : Option Addr} {len cap i : Nat} {h : Int} (c : Cur w g A len cap i h) (n : Nat) : Cur (w.drewN n) g A len cap i h := c
theorem Cur.other {w w' : World} {g : Nat} {A : Option Addr} {len cap i : Nat} {h : Int} (c : Cur w g A len cap i h) (hb : w'.heap[g]? = w.heap[g]?) : Cur w' g A len cap i h := hb.trans c
/-- Each of the bytes can be read, below block B. -/
def Code (w : World) (B : Nat) (A : Option Addr) (len : Nat) : Prop := ∀ j, j < len → ∃ b off n, A = some ⟨b, off, none⟩ ∧ b < B ∧ (0 : Int) ≤ n ∧ n ≤ 255 ∧ w.cell? ⟨b, off + j, none⟩ = some (.int .u8 n)
theorem Code.keep {w w' : World} {B : Nat} {A : Option Addr} {len : Nat} (c : Code w B A len) (h : ∀ k, k < B → w'.heap[k]? = w.heap[k]?) : Code w' B A len := by
  intro j hj
  obtain ⟨b, off, n, hA, hb, h0, h1, hc⟩ := c j hj
  exact ⟨b, off, n, hA, hb, h0, h1, (World.cell?_of_block (w := w) (h b hb)).trans hc⟩

/-- Only block g may have changed. -/
theorem only_setCell {a w : World} {g : Nat} (h : a.grownBy w (some g)) (k : Nat) (u : Value) : a.grownBy (w.setCell ⟨g, k, none⟩ u) (some g) :=
  ⟨h.os, h.tape, h.output, by simpa [World.setCell] using h.size, fun i hi hne => (Below.heap_setCell w ⟨g, k, none⟩ u i (by rintro rfl; exact hne rfl)).trans (h.block i hi hne)⟩
theorem only_drewN {a w : World} {row : Option Nat} (h : a.grownBy w row) (n : Nat) : a.grownBy (w.drewN n) row := ⟨h.os, h.tape, h.output, h.size, h.block⟩
theorem only_trans {a b c : World} {g : Nat} (h : a.grownBy b (some g)) (k : b.grownBy c (some g)) : a.grownBy c (some g) :=
  ⟨k.os.trans h.os, k.tape.trans h.tape, k.output.trans h.output, Nat.le_trans h.size k.size, fun i hi hne => (k.block i (Nat.lt_of_lt_of_le hi h.size) hne).trans (h.block i hi hne)⟩
theorem only_below {a b : World} {g B : Nat} (h : a.grownBy b (some g)) (hB : B ≤ g) (hl : B ≤ a.heap.size) : Below B a b :=
  ⟨h.os, h.tape, h.output, h.size, fun k hk => h.block k (by omega) (fun e => by have := Option.some.inj e; omega)⟩

theorem i64_and255 (n : Int) : bits .and .i64 n 255 = n % 256 := by
  have h255 : (BitVec.ofInt 64 255).toNat = 2 ^ 8 - 1 := by decide
  have key : (BitVec.ofInt 64 n &&& BitVec.ofInt 64 255).toNat = (n % ((2 ^ 64 : Nat) : Int)).toNat % 2 ^ 8 := by
    rw [BitVec.toNat_and, BitVec.toNat_ofInt, h255, Nat.and_two_pow_sub_one_eq_mod]
  show IntKind.i64.wrap ((BitVec.ofInt 64 n &&& BitVec.ofInt 64 255).toNat : Nat) = n % 256
  rw [key, IntKind.wrap_i64]
  omega

theorem mod_lo (x : Int) : 0 ≤ x % 256 := by omega
theorem mod_hi (x : Int) : x % 256 ≤ 255 := by omega

/-- A number from lo to hi comes back; the cursor over the same bytes has moved on; nothing else has changed. -/
def NumPost (lo hi : Int) (g : Nat) (A : Option Addr) (len cap : Nat) (w : World) (e : Ending) (w' : World) : Prop :=
  ∃ (x : Int) (i' : Nat) (h' : Int), e = .returned (.int .i64 x) ∧ lo ≤ x ∧ x ≤ hi ∧ i' ≤ len ∧ Cur w' g A len cap i' h' ∧ w.grownBy w' (some g)

set_option maxRecDepth 100000 in
set_option maxHeartbeats 800000 in
theorem byte_end (g len cap i : Nat) (A : Option Addr) (h : Int) (w : World) (c : Cur w g A len cap i h) (hi : i = len) :
    Calls Try.prog 41 #[.pointer (some ⟨g, 0, none⟩)] w (NumPost 0 255 g A len cap w) := by
  have c0 : w.cell? ⟨g, 0, none⟩ = some (.slice A len cap) := c.cell 0
  have c1 : w.cell? ⟨g, 1, none⟩ = some (.int .i64 (i : Int)) := c.cell 1
  have c2 : w.cell? ⟨g, 2, none⟩ = some (.int .i64 h) := c.cell 2
  have f1 := c.free 1
  have f2 := c.free 2
  have C := Lib.hid c
  have hi' : len ≤ i := by omega
  have hle : i ≤ len := by omega
  clear c hi
  have ha := i64_and255
  go_enter Try.func41, Try.ntmps41
  go_wp2
  go_quiet (fail)
  go_wp2
  go_quiet (fail)
  go_wp2
  go_ret
  exact ⟨_, i, _, rfl, mod_lo _, mod_hi _, hle, ((C.out.set2 _).drewN _).drewN _, only_drewN (only_drewN (only_setCell (World.grownBy.refl _ _) 2 _) _) _⟩

set_option maxRecDepth 100000 in
set_option maxHeartbeats 800000 in
theorem byte_mid (g len cap i b off : Nat) (h n : Int) (w : World) (c : Cur w g (some ⟨b, off, none⟩) len cap i h) (hi : i < len) (hlen : len ≤ maxLen) (hbg : b ≠ g) (n0 : 0 ≤ n) (n1 : n ≤ 255)
    (hc : w.cell? ⟨b, off + i, none⟩ = some (.int .u8 n)) :
    Calls Try.prog 41 #[.pointer (some ⟨g, 0, none⟩)] w (NumPost 0 255 g (some ⟨b, off, none⟩) len cap w) := by
  unfold maxLen at hlen
  have c0 : w.cell? ⟨g, 0, none⟩ = some (.slice (some ⟨b, off, none⟩) len cap) := c.cell 0
  have c1 : w.cell? ⟨g, 1, none⟩ = some (.int .i64 (i : Int)) := c.cell 1
  have c2 : w.cell? ⟨g, 2, none⟩ = some (.int .i64 h) := c.cell 2
  have f1 := c.free 1
  have f2 := c.free 2
  have C := Lib.hid c
  clear c
  have ha := i64_and255
  go_enter Try.func41, Try.ntmps41
  go_wp2
  go_quiet (fail)
  go_wp2
  go_quiet (fail)
  go_wp2
  go_quiet (fail)
  go_wp2
  go_ret
  exact ⟨_, i + 1, _, rfl, mod_lo _, mod_hi _, by omega, ((C.out.set2 _).drewN _).set1 (i + 1), only_setCell (only_drewN (only_setCell (World.grownBy.refl _ _) 2 _) _) 1 _⟩

/-- Block g is a cursor over bytes that can be read, below block B. -/
def Draw (w : World) (g B : Nat) (A : Option Addr) (len cap : Nat) : Prop := B ≤ g ∧ len ≤ maxLen ∧ Code w B A len ∧ ∃ (i : Nat) (h : Int), i ≤ len ∧ Cur w g A len cap i h
theorem Draw.lt {w : World} {g B : Nat} {A : Option Addr} {len cap : Nat} (d : Draw w g B A len cap) : g < w.heap.size := by
  obtain ⟨_, _, _, i, h, _, c⟩ := d
  exact c.lt
theorem Draw.le {w : World} {g B : Nat} {A : Option Addr} {len cap : Nat} (d : Draw w g B A len cap) : B ≤ g := d.1
theorem Draw.keep {w w' : World} {g B : Nat} {A : Option Addr} {len cap : Nat} (d : Draw w g B A len cap) (hk : ∀ k, k ≤ g → w'.heap[k]? = w.heap[k]?) : Draw w' g B A len cap := by
  obtain ⟨h1, h2, h3, i, h, h4, c⟩ := d
  exact ⟨h1, h2, h3.keep (fun k hk' => hk k (by omega)), i, h, h4, c.other (hk g (Nat.le_refl _))⟩
theorem Draw.below {w w' : World} {g B : Nat} {A : Option Addr} {len cap : Nat} (d : Draw w g B A len cap) {K : Nat} (hK : g < K) (hb : Below K w w') : Draw w' g B A len cap := d.keep fun k hk => hb.block k (by omega)
theorem Draw.alloc {w : World} {g B : Nat} {A : Option Addr} {len cap : Nat} (d : Draw w g B A len cap) (o : Obj) : Draw (w.alloc o) g B A len cap := d.keep fun k hk => Below.heap_alloc w o k (by have := d.lt; omega)
/-- A number from lo to hi comes back; the cursor has moved on; nothing else has changed. -/
def NumP (lo hi : Int) (g B : Nat) (A : Option Addr) (len cap : Nat) (w : World) (e : Ending) (w' : World) : Prop :=
  ∃ x : Int, e = .returned (.int .i64 x) ∧ lo ≤ x ∧ x ≤ hi ∧ Draw w' g B A len cap ∧ w.grownBy w' (some g)

/-- spec.l1Byte -/
theorem dbyte (g B : Nat) (A : Option Addr) (len cap : Nat) (w : World) (d : Draw w g B A len cap) :
    Calls Try.prog 41 #[.pointer (some ⟨g, 0, none⟩)] w (NumP 0 255 g B A len cap w) := by
  have hlt := d.lt
  obtain ⟨hB, hlen, hcode, i, h, hi, c⟩ := d
  have fin : ∀ e w', NumPost 0 255 g A len cap w e w' → NumP 0 255 g B A len cap w e w' := by
    rintro e w' ⟨x, i', h', he, h0, h1, hi', hc, hg⟩
    exact ⟨x, he, h0, h1, ⟨hB, hlen, hcode.keep (fun k hk => hg.block k (by omega) (fun e => by have := Option.some.inj e; omega)), i', h', hi', hc⟩, hg⟩
  by_cases he : i = len
  · exact (byte_end g len cap i A h w c he).mono fin
  · obtain ⟨b, off, n, rfl, hb, n0, n1, hc⟩ := hcode i (by omega)
    exact (byte_mid g len cap i b off h n w c (by omega) hlen (by omega) n0 n1 hc).mono fin
end Go.Proofs.Ytdaoaedkjoknmaa
