/-
  What the laws' words on buffers return: szBuffer, toBuffer, eqBuffer, markBuffer, heldBuffer.
  What laws.toBuffer returns.
  What the walks of the laws on buffers share: a box of a buffer that came in, and copies of it.
-/
import Derived.Test.YtmmoedhfeaokgaaLCh
import Derived.Test.YtmmoedhfeaokgaaChs
import Derived.Test.YtmmoedhfeaokgaaMarkC
namespace Go.Proofs.Ytmmoedhfeaokgaa
open Go.RowKit Go.Deep Go.Proofs.Ytmmoedhfeaokgaa.Num

/-- What is left of N when a buffer is taken off. -/
def szB (N : Int) (b : Bf) : Int := if N < (b.chs.length : Int) then -1 else szCs (N - b.chs.length) b.chs
theorem szB_low (N : Int) (b : Bf) (hN : N ≤ 1048576) : -1 ≤ szB N b ∧ szB N b ≤ 1048576 := by
  unfold szB
  split
  · decide
  · have := szCs_low b.chs (N - b.chs.length) (by omega)
    omega
theorem szB_ok {N : Int} {b : Bf} (hN : N ≤ 1048576) (h : 0 ≤ szB N b) : b.chs.length ≤ 1048576 ∧ ∀ c ∈ b.chs, c.data.size ≤ 1048576 := by
  unfold szB at h
  split at h
  · omega
  · exact ⟨by omega, fun c hc => by have := szCs_small b.chs _ (by omega) h c hc; omega⟩
theorem box2 (w : World) (a b : Value) (t : TypeId) : (w.alloc (.cells #[a, b] t)).cell? ⟨w.heap.size, 0, none⟩ = some a ∧ (w.alloc (.cells #[a, b] t)).cell? ⟨w.heap.size, 1, none⟩ = some b :=
  ⟨by rw [World.cell?_alloc_at _ _ _ _ rfl]; rfl, by rw [World.cell?_alloc_at _ _ _ _ rfl]; rfl⟩

/-- laws.szBuffer -/
theorem lszb (N : Int) (hN0 : 0 ≤ N) (hN1 : N ≤ 1048576) (b : Bf) (A : Option Addr) (cap B : Nat) (w : World) (hB : B ≤ w.heap.size) (hr : Chs w B A b.chs) (hn : b.chs.length ≤ 9223372036854775807) (hs : ∀ c ∈ b.chs, c.data.size ≤ 9223372036854775807) :
    Calls Try.prog 61 #[bfV b.next (.slice A b.chs.length cap), .int .i64 N] w fun e w' => e = .returned (.int .i64 (szB N b)) ∧ Below w.heap.size w w' := by
  have HZ : Hid (∀ W, w.heap.size ≤ W.heap.size → Below w.heap.size w W → Calls Try.prog 81 #[.slice A b.chs.length cap, .int .i64 N] W fun e w' => e = .returned (.int .i64 (szB N b)) ∧ Below W.heap.size W w') := Lib.hid fun W h1 h2 => lszcs N hN0 hN1 b.chs A cap B W (Nat.le_trans hB h1) (hr.below hB h2) hn hs
  have hlow := (szB_low N b hN1).1
  have HB0 := Lib.hid ((Below.refl w.heap.size w).alloc (Nat.le_refl _) (.cells #[.int .i64 b.next, .slice A b.chs.length cap] 43))
  obtain ⟨q0, q1⟩ := box2 w (.int .i64 b.next) (.slice A b.chs.length cap) 43
  generalize szB N b = m at *
  clear hr hs
  by_cases h : m < 0
  · obtain rfl : m = -1 := by omega
    clear h hlow
    go_enter Try.func61, Try.ntmps61
    go_wp2_with fail
    refine (HZ.out _ HB0.out.size HB0.out).mono ?_
    rintro e w1 ⟨rfl, hb1⟩
    have HB1 := Lib.hid (HB0.out.trans (hb1.mono HB0.out.size))
    clear hb1
    go_wp2
    go_ret
    exact ⟨rfl, HB1.out⟩
  · have hd : decide (m < 0) = false := decide_eq_false h
    clear h hlow
    go_enter Try.func61, Try.ntmps61
    go_wp2_with fail
    refine (HZ.out _ HB0.out.size HB0.out).mono ?_
    rintro e w1 ⟨rfl, hb1⟩
    have HB1 := Lib.hid (HB0.out.trans (hb1.mono HB0.out.size))
    clear hb1
    go_wp2
    go_ret
    exact ⟨rfl, HB1.out⟩

theorem eqbuf_aux (n : Int) : (n != n) = false := by simp
/-- laws.eqBuffer, of two buffers that hold the same. -/
theorem eqbuf (n : Int) (l : List Ch) (A A' : Option Addr) (cap cap' B : Nat) (w : World) (hB : B ≤ w.heap.size) (hr : Chs w B A l) (hr' : Chs w B A' l) (hn : l.length ≤ 1000000000) :
    Calls Try.prog 58 #[bfV n (.slice A l.length cap), bfV n (.slice A' l.length cap')] w fun e w' => e = .returned (.bool true) ∧ Below w.heap.size w w' := by
  have HE : Hid (∀ W, w.heap.size ≤ W.heap.size → Below w.heap.size w W → Calls Try.prog 78 #[.slice A l.length cap, .slice A' l.length cap'] W fun e w' => e = .returned (.bool true) ∧ Below W.heap.size W w') := Lib.hid fun W h1 h2 => eqchunks l A A' cap cap' B W (Nat.le_trans hB h1) (hr.below hB h2) (hr'.below hB h2) hn
  have HB0 := Lib.hid (((Below.refl w.heap.size w).alloc (Nat.le_refl _) (.cells #[.int .i64 n, .slice A l.length cap] 26)).alloc (by simp) (.cells #[.int .i64 n, .slice A' l.length cap'] 26))
  have hq := eqbuf_aux n
  clear hr hr'
  go_enter Try.func58, Try.ntmps58
  go_wp2_with fail
  refine (HE.out _ HB0.out.size HB0.out).mono ?_
  rintro e w1 ⟨rfl, hb1⟩
  have HB1 := Lib.hid (HB0.out.trans (hb1.mono HB0.out.size))
  clear hb1
  go_wp2
  go_ret
  exact ⟨rfl, HB1.out⟩

/-- laws.markBuffer, on a buffer of the call's own. -/
theorem markbuf (n : Int) (l : List Ch) (v : Value) (base : Nat) (w : World) (ho : OwnX w base v l) (hbs : base ≤ w.heap.size) (hn : l.length ≤ 10000000) :
    Calls Try.prog 59 #[bfV n v, .int .i64 1] w fun e w' => e = .returned (.int .i64 ((1 + 2 * l.length : Nat) : Int)) ∧ OwnX w' base v (marksC 1 l.length) ∧ Below base w w' ∧ w.grownBy w' v.ownBlock := by
  have HO := Lib.hid (markanyC l v base _ (ho.alloc (.cells #[.int .i64 n, v] 26)) hn)
  have HB0 := Lib.hid ((Below.refl base w).alloc hbs (.cells #[.int .i64 n, v] 26))
  clear ho
  go_enter Try.func59, Try.ntmps59
  go_wp2_with fail
  refine HO.out.mono ?_
  rintro e w1 ⟨rfl, ho1, hb1, hg1⟩
  have HB1 := Lib.hid (HB0.out.trans hb1)
  have HG1 := Lib.hid (only_first hg1)
  have HO1 := Lib.hid ho1
  clear hb1 ho1 hg1 HO
  go_wp2
  go_ret
  exact ⟨rfl, HO1.out, HB1.out, HG1.out⟩

/-- laws.heldBuffer, of a buffer that holds the marks. -/
theorem heldbuf (n : Int) (k : Nat) (A : Option Addr) (cap B : Nat) (w : World) (hB : B ≤ w.heap.size) (hr : Chs w B A (marksC 1 k)) (hn : k ≤ 10000000) :
    Calls Try.prog 60 #[bfV n (.slice A k cap), .int .i64 1] w fun e w' => e = .returned (.int .i64 ((1 + 2 * k : Nat) : Int)) ∧ Below w.heap.size w w' := by
  have HB0 := Lib.hid ((Below.refl w.heap.size w).alloc (Nat.le_refl _) (.cells #[.int .i64 n, .slice A k cap] 26))
  have HO := Lib.hid (heldC k A cap B _ (Nat.le_trans hB HB0.out.size) (hr.below hB HB0.out) hn)
  obtain ⟨m, hm⟩ : ∃ m : Int, ((1 + 2 * k : Nat) : Int) = m := ⟨_, rfl⟩
  have hd : decide (m < 0) = false := decide_eq_false (by omega)
  rw [hm] at HO
  rw [hm]
  clear hr hm
  go_enter Try.func60, Try.ntmps60
  go_wp2_with fail
  refine HO.out.mono ?_
  rintro e w1 ⟨rfl, hb1⟩
  have HB1 := Lib.hid (HB0.out.trans (hb1.mono HB0.out.size))
  clear hb1 HO
  go_wp2
  go_ret
  exact ⟨rfl, HB1.out⟩

theorem RowC.weaken {w : World} {base base' g n cap : Nat} {l : List Ch} (h : RowC w base g n cap l) (hb : base' ≤ base) : RowC w base' g n cap l := by
  obtain ⟨hl, h0, h⟩ := h
  refine ⟨hl, h0, ?_⟩
  rcases h with h | ⟨g, cap, cur, h1, h2, h3⟩
  · exact .inl h
  · exact .inr ⟨g, cap, cur, h1, by omega, h3⟩
end Go.Proofs.Ytmmoedhfeaokgaa

namespace Go.Proofs.Ytmmoedhfeaokgaa
open Go.RowKit Go.Deep Go.Proofs.Ytmmoedhfeaokgaa.Num

theorem OwnC.put {w : World} {base : Nat} {v : Value} {l : List Ch} (h : OwnC w base v l) (g k : Nat) (u : Value) (hg : g < base) : OwnC (w.setCell ⟨g, k, none⟩ u) base v l := h.only (only_setC w g k u) hg
theorem RowC.other {w : World} {base g n cap : Nat} {l : List Ch} (h : RowC w base g n cap l) (g' k : Nat) (u : Value) (hg : g' < base) : RowC (w.setCell ⟨g', k, none⟩ u) base g n cap l := by
  obtain ⟨rfl, h1⟩ := h
  exact ⟨rfl, OwnC.put h1 g' k u hg⟩
theorem BoxB.other {w : World} {g : Nat} {n : Int} {v : Value} (c : BoxB w g n v) (g' k : Nat) (u : Value) (hg : g ≠ g') : BoxB (w.setCell ⟨g', k, none⟩ u) g n v := by
  unfold BoxB at c ⊢
  exact (Below.heap_setCell w ⟨g', k, none⟩ u g hg).trans c

set_option maxRecDepth 100000 in
/-- laws.toBuffer: a copy, in new blocks. -/
theorem tobuf (n : Int) (l : List Ch) (A : Option Addr) (cap B : Nat) (w : World) (hB : B ≤ w.heap.size) (hr : Chs w B A l) (hn : l.length ≤ 1048576) :
    Calls Try.prog 62 #[bfV n (.slice A l.length cap)] w fun e w' => e = .returned (bfV n (.slice (some ⟨w.heap.size + 1 + 1 + 1, 0, none⟩) l.length l.length)) ∧ RowC w' w.heap.size (w.heap.size + 1 + 1 + 1) l.length l.length l ∧ Below w.heap.size w w' := by
  have HR := Lib.hid hr
  clear hr
  have HT : Hid (∀ W, w.heap.size ≤ W.heap.size → Below w.heap.size w W → Calls Try.prog 82 #[.slice A l.length cap] W fun e w' => e = .returned (.slice (some ⟨W.heap.size, 0, none⟩) l.length l.length) ∧ RowC w' W.heap.size W.heap.size l.length l.length l ∧ Below W.heap.size W w') := Lib.hid fun W h1 h2 => tochunks l A cap B W (Nat.le_trans hB h1) (HR.out.below hB h2) hn
  go_enter Try.func62, Try.ntmps62
  go_wp2_with fail
  have s1 : ∀ o1, (w.alloc o1).heap.size = w.heap.size + 1 := fun _ => by simp
  have s2 : ∀ o1 o2, ((w.alloc o1).alloc o2).heap.size = w.heap.size + 1 + 1 := fun _ _ => by simp
  have s3 : ∀ o1 o2 o3, (((w.alloc o1).alloc o2).alloc o3).heap.size = w.heap.size + 1 + 1 + 1 := fun _ _ _ => by simp
  have HB3 := Lib.hid ((((Below.refl w.heap.size w).alloc (Nat.le_refl _) (.cells #[.int .i64 n, .slice A l.length cap] 43)).alloc (by simp) (.cells #[.int .i64 0, .slice none 0 0] 26)).alloc (by simp; omega) (.cells #[.int .i64 n, .slice none 0 0] 26))
  have X1 := ((BoxB.new (w.alloc (.cells #[.int .i64 n, .slice A l.length cap] 43)) 0 (.slice none 0 0)).alloc (.cells #[.int .i64 n, .slice none 0 0] 26))
  have X2 := BoxB.new ((w.alloc (.cells #[.int .i64 n, .slice A l.length cap] 43)).alloc (.cells #[.int .i64 0, .slice none 0 0] 26)) n (.slice none 0 0)
  rw [s1] at X1
  rw [s2] at X2
  have HX := Lib.hid (And.intro X1 X2)
  have HS := Lib.hid (s3 (.cells #[.int .i64 n, .slice A l.length cap] 43) (.cells #[.int .i64 0, .slice none 0 0] 26) (.cells #[.int .i64 n, .slice none 0 0] 26))
  clear X1 X2 s1 s2 s3
  generalize (((w.alloc (.cells #[.int .i64 n, .slice A l.length cap] 43)).alloc (.cells #[.int .i64 0, .slice none 0 0] 26)).alloc (.cells #[.int .i64 n, .slice none 0 0] 26)) = w3 at *
  refine (HT.out w3 HB3.out.size HB3.out).mono ?_
  rw [HS.out]
  rintro e w4 ⟨rfl, ho, hb⟩
  have HO := Lib.hid ho
  have HB4 := Lib.hid (HB3.out.trans (hb.mono (by have := HS.out; omega)))
  have Y1 := HX.out.1.below hb (by omega)
  have Y2 := HX.out.2.below hb (by omega)
  have HY := Lib.hid (And.intro Y1 Y2)
  obtain ⟨q0, q1⟩ := Y1.cells
  obtain ⟨p0, p1⟩ := Y2.cells
  have f1 := Y1.free
  have f2 := Y2.free
  clear ho hb HT HR Y1 Y2 HX HB3
  go_wp2
  refine bodyPost_ret (results_cell_row rfl _ _ (w.heap.size + 1) _ _ _ _ rfl (((HY.out.1.other (w.heap.size + 1 + 1) 1 _ (by omega)).set0 n).set1 _) Try.underlying26 rfl (by kernel_rfl)) rfl ?_
  exact ⟨rfl, (((HO.out.other (w.heap.size + 1 + 1) 1 _ (by omega)).other (w.heap.size + 1) 0 _ (by omega)).other (w.heap.size + 1) 1 _ (by omega)).weaken (by omega), ((HB4.out.setCell (p := ⟨_, _, _⟩) (by show w.heap.size ≤ w.heap.size + 1 + 1; omega) _).setCell (p := ⟨_, _, _⟩) (by show w.heap.size ≤ w.heap.size + 1; omega) _).setCell (p := ⟨_, _, _⟩) (by show w.heap.size ≤ w.heap.size + 1; omega) _⟩
end Go.Proofs.Ytmmoedhfeaokgaa

namespace Go.Proofs.Ytmmoedhfeaokgaa
open Go.RowKit Go.Deep Go.Proofs.Ytmmoedhfeaokgaa.Num

/-- Two cells of a block. -/
def CellB (w : World) (g : Nat) (n : Int) (v : Value) : Prop := w.cell? ⟨g, 0, none⟩ = some (.int .i64 n) ∧ w.cell? ⟨g, 1, none⟩ = some v
theorem CellB.below {w w' : World} {K g : Nat} {n : Int} {v : Value} (h : CellB w g n v) (hb : Below K w w') (hg : g < K) : CellB w' g n v :=
  ⟨(hb.cell (p := ⟨g, 0, none⟩) hg).trans h.1, (hb.cell (p := ⟨g, 1, none⟩) hg).trans h.2⟩
theorem CellB.new (w : World) (n : Int) (v : Value) (t : TypeId) : CellB (w.alloc (.cells #[.int .i64 n, v] t)) w.heap.size n v := box2 w (.int .i64 n) v t
theorem bne_bool (x : Bool) : (x != x) = false := by cases x <;> rfl
theorem bne_int (x : Int) : (x != x) = false := by simp
/-- The buffer that came in, boxed in block g: all that was made since lies behind it. -/
def InB (w0 : World) (g : Nat) (n : Int) (A : Option Addr) (cap : Nat) (l : List Ch) (W : World) : Prop :=
  CellB W g n (.slice A l.length cap) ∧ Chs W g A l ∧ g < W.heap.size ∧ Below g w0 W
theorem InB.start (w : World) (n : Int) (A : Option Addr) (cap : Nat) (l : List Ch) (t : TypeId) (hr : Chs w w.heap.size A l) : InB w w.heap.size n A cap l (w.alloc (.cells #[.int .i64 n, .slice A l.length cap] t)) :=
  ⟨CellB.new w n _ t, hr.below (Nat.le_refl _) ((Below.refl _ _).alloc (Nat.le_refl _) _), by simp, (Below.refl _ _).alloc (Nat.le_refl _) _⟩
theorem InB.next {w0 : World} {g : Nat} {n : Int} {A : Option Addr} {cap : Nat} {l : List Ch} {W W' : World} (h : InB w0 g n A cap l W) (hb : Below W.heap.size W W') : InB w0 g n A cap l W' :=
  ⟨h.1.below hb h.2.2.1, h.2.1.below (Nat.le_of_lt h.2.2.1) hb, Nat.lt_of_lt_of_le h.2.2.1 hb.size, h.2.2.2.trans (hb.mono (Nat.le_of_lt h.2.2.1))⟩
theorem InB.alloc {w0 : World} {g : Nat} {n : Int} {A : Option Addr} {cap : Nat} {l : List Ch} {W : World} (h : InB w0 g n A cap l W) (o : Obj) : InB w0 g n A cap l (W.alloc o) := h.next ((Below.refl _ _).alloc (Nat.le_refl _) _)
theorem InB.drew {w0 : World} {g : Nat} {n : Int} {A : Option Addr} {cap : Nat} {l : List Ch} {W : World} (h : InB w0 g n A cap l W) : InB w0 g n A cap l W.drew := h.next (Below.refl _ _).drew
/-- laws.toBuffer of it. -/
theorem InB.to {w0 : World} {g : Nat} {n : Int} {A : Option Addr} {cap : Nat} {l : List Ch} {W : World} (h : InB w0 g n A cap l W) (hn : l.length ≤ 1048576) :
    Calls Try.prog 62 #[bfV n (.slice A l.length cap)] W fun e w' => e = .returned (bfV n (.slice (some ⟨W.heap.size + 1 + 1 + 1, 0, none⟩) l.length l.length)) ∧ RowC w' W.heap.size (W.heap.size + 1 + 1 + 1) l.length l.length l ∧ Below W.heap.size W w' :=
  tobuf n l A cap g W (Nat.le_of_lt h.2.2.1) h.2.1 hn
end Go.Proofs.Ytmmoedhfeaokgaa
