/-
  Contracts and lemmas for the law on draining.
-/
import Derived.Test.YtdaoaedkjoknmaaGreatDrZ0
import Derived.Test.YtdaoaedkjoknmaaGreatDrZ2
import Derived.Test.YtdaoaedkjoknmaaGreatDrZ6
import Derived.Test.YtdaoaedkjoknmaaGreatDrZ22
import Derived.Test.YtdaoaedkjoknmaaGreatDrZ23
import Derived.Test.YtdaoaedkjoknmaaGreatDrZ7
import Derived.Test.YtdaoaedkjoknmaaGreatDrZ9
import Derived.Test.YtdaoaedkjoknmaaGreatDrZ15
import Derived.Test.YtdaoaedkjoknmaaGreatDrZ17
import Derived.Test.YtdaoaedkjoknmaaGreatDrZ1
import Derived.Test.YtdaoaedkjoknmaaGreatDrZ24
import Derived.Test.YtdaoaedkjoknmaaGreatDrZ10
import Derived.Test.YtdaoaedkjoknmaaGreatDrZ25
set_option maxRecDepth 1000000
set_option maxHeartbeats 8000000
namespace Go.Proofs.YtdaoaedkjoknmaaGreat
open Go.RowKit Go.Deep Go.Proofs.YtdaoaedkjoknmaaGreat.Num

theorem cell_alloc1 (w : World) (v : Value) (t : TypeId) : (w.alloc (.cells #[v] t)).cell? ⟨w.heap.size, 0, none⟩ = some v := by
  rw [World.cell?_alloc_at _ _ _ _ rfl]; rfl
theorem cell_alloc3 (w : World) (v1 v2 v3 : Value) (t : TypeId) : (w.alloc (.cells #[v1, v2, v3] t)).cell? ⟨w.heap.size, 0, none⟩ = some v1 ∧ (w.alloc (.cells #[v1, v2, v3] t)).cell? ⟨w.heap.size, 1, none⟩ = some v2 ∧ (w.alloc (.cells #[v1, v2, v3] t)).cell? ⟨w.heap.size, 2, none⟩ = some v3 := by
  refine ⟨?_, ?_, ?_⟩ <;> (rw [World.cell?_alloc_at _ _ _ _ rfl]; rfl)
theorem isrv (l : List Rg) (A : Option Addr) (cap B : Nat) (w : World) (hB : B ≤ w.heap.size) (hr : Rgs w B A l) (hn : l.length ≤ 1048576) :
    Calls Tryz.prog 121 #[.agg #[(.slice A l.length cap)]] w fun e w' => e = .returned (.bool (decide (okR (-1) l))) ∧ Below w.heap.size w w' := by
  have HC : Hid (∀ W, Below w.heap.size w W → Calls Tryz.prog 86 #[(.slice A l.length cap)] W fun e w' => e = .returned (.bool (decide (okR (-1) l))) ∧ Below W.heap.size W w') := LH fun W h => iisr l A cap B W (Nat.le_trans hB h.size) (hr.below hB h) (Nat.le_trans hn (by decide))
  have X := cell_alloc1 w (.slice A l.length cap) 70
  have HB := LH ((Below.refl w.heap.size w).alloc (Nat.le_refl _) (.cells #[(.slice A l.length cap)] 70))
  clear hr hn
  go_enter Tryz.func121, Tryz.ntmps121
  go_wp2_with fail
  refine (HC.out _ HB.out).mono ?_
  rintro e w1 ⟨rfl, hb⟩
  have HB2 := LH (HB.out.trans (hb.mono HB.out.size))
  clear hb
  go_wp2
  go_ret
  exact ⟨rfl, HB2.out⟩
theorem isrc (l : List Rg) (A : Option Addr) (cap B : Nat) (w : World) (hB : B ≤ w.heap.size) (hr : Rgs w B A l) (hn : l.length ≤ 1048576) :
    Calls Tryz.prog 125 #[.agg #[(.slice A l.length cap)]] w fun e w' => e = .returned (.int .i64 (if okR (-1) l then cntR l else -1)) ∧ Below w.heap.size w w' := by
  have HC : Hid (∀ W, Below w.heap.size w W → Calls Tryz.prog 145 #[(.slice A l.length cap)] W fun e w' => e = .returned (.int .i64 (if okR (-1) l then cntR l else -1)) ∧ Below W.heap.size W w') := LH fun W h => icnt l A cap B W (Nat.le_trans hB h.size) (hr.below hB h) (Nat.le_trans hn (by decide))
  have X := cell_alloc1 w (.slice A l.length cap) 70
  have HB := LH ((Below.refl w.heap.size w).alloc (Nat.le_refl _) (.cells #[(.slice A l.length cap)] 70))
  clear hr hn
  generalize (if okR (-1) l then cntR l else -1) = q at *
  go_enter Tryz.func125, Tryz.ntmps125
  go_wp2_with fail
  refine (HC.out _ HB.out).mono ?_
  rintro e w1 ⟨rfl, hb⟩
  have HB2 := LH (HB.out.trans (hb.mono HB.out.size))
  clear hb
  go_wp2
  go_ret
  exact ⟨rfl, HB2.out⟩
theorem isrm (l : List Rg) (A : Option Addr) (cap B : Nat) (w : World) (hB : B ≤ w.heap.size) (hr : Rgs w B A l) (hn : l.length ≤ 1048576) :
    Calls Tryz.prog 55 #[.agg #[(.slice A l.length cap)]] w fun e w' => e = .returned (.int .i64 (if okR (-1) l then gapR l 0 else -1)) ∧ Below w.heap.size w w' := by
  have HC : Hid (∀ W, Below w.heap.size w W → Calls Tryz.prog 112 #[(.slice A l.length cap), .int .i64 0] W fun e w' => e = .returned (.int .i64 (if okR (-1) l then gapR l 0 else -1)) ∧ Below W.heap.size W w') := LH fun W h => (igap l 0 A cap B W (Nat.le_trans hB h.size) (hr.below hB h) (Nat.le_trans hn (by decide))).mono fun e w2 hh => ⟨by rw [hh.1]; congr 2; by_cases k : okR (-1) l <;> simp [k], hh.2⟩
  have X := cell_alloc1 w (.slice A l.length cap) 73
  have HB := LH ((Below.refl w.heap.size w).alloc (Nat.le_refl _) (.cells #[(.slice A l.length cap)] 73))
  clear hr hn
  generalize (if okR (-1) l then gapR l 0 else -1) = q at *
  go_enter Tryz.func55, Tryz.ntmps55
  go_wp2_with fail
  refine (HC.out _ HB.out).mono ?_
  rintro e w1 ⟨rfl, hb⟩
  have HB2 := LH (HB.out.trans (hb.mono HB.out.size))
  clear hb
  go_wp2
  go_ret
  exact ⟨rfl, HB2.out⟩
theorem isre (l : List Rg) (A : Option Addr) (cap : Nat) (w : World) :
    Calls Tryz.prog 122 #[.agg #[(.slice A l.length cap)]] w fun e w' => e = .returned (.bool (decide (l = []))) ∧ Below w.heap.size w w' := by
  have X := cell_alloc1 w (.slice A l.length cap) 70
  have HB := LH ((Below.refl w.heap.size w).alloc (Nat.le_refl _) (.cells #[(.slice A l.length cap)] 70))
  have HQ : Hid (((l.length : Int) == 0) = decide (l = [])) := LH (by cases l with | nil => rfl | cons x l => rw [decide_eq_false (List.cons_ne_nil _ _)]; simp; omega)
  go_enter Tryz.func122, Tryz.ntmps122
  go_wp2
  go_ret
  exact ⟨by rw [← HQ.out]; rfl, HB.out⟩
theorem isrd (l : List Rg) (A : Option Addr) (cap B : Nat) (w : World) (hB : B ≤ w.heap.size) (hr : Rgs w B A l) (hn : l.length ≤ 1048576) :
    Calls Tryz.prog 124 #[.agg #[(.slice A l.length cap)]] w fun e w' => e = .returned (.int .i64 (lastS l)) ∧ Below w.heap.size w w' := by
  have X := cell_alloc1 w (.slice A l.length cap) 70
  have HB := LH ((Below.refl w.heap.size w).alloc (Nat.le_refl _) (.cells #[(.slice A l.length cap)] 70))
  have HE := LH fun W => isre l A cap W
  by_cases h0 : l = []
  · rw [decide_eq_true h0] at HE
    have hl : lastS l = 0 := by rw [h0]; rfl
    rw [hl]
    clear h0 hr hn hl
    go_enter Tryz.func124, Tryz.ntmps124
    go_wp2_with fail
    refine (HE.out _).mono ?_
    rintro e w1 ⟨rfl, hb⟩
    have HB2 := LH (HB.out.trans (hb.mono HB.out.size))
    clear hb
    go_wp2
    go_ret
    exact ⟨rfl, HB2.out⟩
  · rw [decide_eq_false h0] at HE
    obtain ⟨n, hlen⟩ : ∃ n, l.length = n + 1 := ⟨l.length - 1, by cases l with | nil => exact absurd rfl h0 | cons x l => simp⟩
    have hlt : n < l.length := by omega
    have HL : Hid (lastS l = l[n].2) := LH (by rw [lastS_at l (by omega)]; congr 2; omega)
    obtain ⟨b, off, hA, hbB, hz1, hz2⟩ := hr n hlt
    clear hz1 hz2
    subst hA
    have hq : wrap64 (n : Int) = (n : Int) := by unfold wrap64; omega
    rw [hlen] at X HE
    have HC : Hid (∀ W, Below w.heap.size w W → W.cell? ⟨b, off + n * 2 + 1, none⟩ = some (.int .i64 l[n].2)) := LH fun W h => by
      obtain ⟨b2, off2, e, _, _, k2⟩ := (hr.below hB h) n hlt
      injection e with e
      injection e with e1 e2
      subst e1 e2
      exact k2
    rw [HL.out]
    generalize l[n].2 = y at *
    clear h0 hr hn hlt HL
    go_enter Tryz.func124, Tryz.ntmps124
    simp only [hlen] at *
    go_wp2_with fail
    refine (HE.out _).mono ?_
    rintro e w1 ⟨rfl, hb⟩
    have HB2 := LH (HB.out.trans (hb.mono HB.out.size))
    have X2 := hb.cell (p := ⟨w.heap.size, 0, none⟩) (by simp)
    rw [X] at X2
    have hc := HC.out _ HB2.out
    clear hb X
    go_wp2
    go_ret
    exact ⟨rfl, HB2.out⟩
theorem isrs (l m : List Rg) (A A' : Option Addr) (cap cap' B : Nat) (w : World) (hB : B ≤ w.heap.size) (hr : Rgs w B A l) (hr' : Rgs w B A' m) (hn : l.length + m.length ≤ 1048576) (hc : l.length ≤ cap) (hc' : m.length ≤ cap') (hk : okR (-1) l) (hk' : okR (-1) m) :
    Calls Tryz.prog 123 #[.agg #[(.slice A l.length cap)], .agg #[.slice A' m.length cap']] w fun e w' => e = .returned (.bool (!decide (comR l m = []))) ∧ Below w.heap.size w w' := by
  have X := cell_alloc1 w (.slice A l.length cap) 70
  have h1 : (w.alloc (.cells #[(.slice A l.length cap)] 70)).heap.size = w.heap.size + 1 := by simp
  have hb1 := (Below.refl w.heap.size w).alloc (Nat.le_refl _) (.cells #[(.slice A l.length cap)] 70)
  have hb2 := hb1.alloc hb1.size (.cells #[.slice A' m.length cap'] 70)
  have Y := cell_alloc1 (w.alloc (.cells #[(.slice A l.length cap)] 70)) (.slice A' m.length cap') 70
  have X2 := ((Below.refl (w.heap.size + 1) (w.alloc (.cells #[(.slice A l.length cap)] 70))).alloc (by rw [h1]; exact Nat.le_refl _) (.cells #[.slice A' m.length cap'] 70)).cell (p := ⟨w.heap.size, 0, none⟩) (Nat.lt_succ_self _)
  rw [X] at X2
  rw [h1] at Y
  have HB := LH hb2
  have HC := LH (icom_yes l m A A' cap cap' B _ (Nat.le_trans hB hb2.size) (hr.below hB hb2) (hr'.below hB hb2) (by omega) hc hc' hk hk')
  have HQ : Hid (decide (0 < (comR l m).length) = !decide (comR l m = [])) := LH (by cases comR l m <;> simp)
  clear hr hr' hn hc hc' hk hk' hb1 hb2 X
  go_enter Tryz.func123, Tryz.ntmps123
  go_upto_region 1 with fail
  generalize (w.alloc (.cells #[(.slice A l.length cap)] 70)).alloc (.cells #[.slice A' m.length cap'] 70) = w2 at *
  go_wp2_with fail
  refine HC.out.mono ?_
  rintro e w1 ⟨v, rfl, ho, hb⟩
  obtain ⟨A3, c3, rfl, _, _⟩ := ho.p.frs
  have HB2 := LH (HB.out.trans (hb.mono HB.out.size))
  clear hb ho
  go_wp2
  go_ret
  exact ⟨by rw [← HQ.out]; rfl, HB2.out⟩

theorem cntR_max (l : List Rg) : ∀ p, okR p l → p ≤ 4611686018427387903 → cntR l ≤ 4611686018427387903 - p := by
  induction l with
  | nil => intro p _ h; show (0 : Int) ≤ _; omega
  | cons x l ih =>
    intro p h hp
    have := ih x.2 h.2.2.2 h.2.2.1
    have := h.1
    rw [cntR_cons]
    omega
theorem cntR_nn (l : List Rg) : ∀ p, okR p l → 0 ≤ cntR l := fun p h => by have := okR_len l p h; omega
theorem cntR_top {l : List Rg} (h : okR (-1) l) : cntR l ≤ 4611686018427387903 := by
  cases l with
  | nil => show (0 : Int) ≤ _; decide
  | cons x l =>
    rw [cntR_cons]
    have := cntR_max l x.2 h.2.2.2 h.2.2.1
    have := h.1
    omega
def InAll (w : World) (s : Sn) (A1 A2 A3 A4 : Option Addr) (c1 c2 c3 c4 K : Nat) (A' : Option Addr) (m : List Rg) (W : World) : Prop :=
  InSn w w.heap.size s A1 A2 A3 A4 c1 c2 c3 c4 W ∧ K ≤ W.heap.size ∧ Rgs W K A' m
theorem InAll.next {w : World} {s : Sn} {A1 A2 A3 A4 : Option Addr} {c1 c2 c3 c4 K : Nat} {A' : Option Addr} {m : List Rg} {W W' : World} (h : InAll w s A1 A2 A3 A4 c1 c2 c3 c4 K A' m W) (hb : Below W.heap.size W W') : InAll w s A1 A2 A3 A4 c1 c2 c3 c4 K A' m W' :=
  ⟨h.1.next hb, Nat.le_trans h.2.1 hb.size, h.2.2.below h.2.1 hb⟩
end Go.Proofs.YtdaoaedkjoknmaaGreat

namespace Go.Proofs.YtdaoaedkjoknmaaGreat
open Go.RowKit Go.Deep Go.Proofs.YtdaoaedkjoknmaaGreat.Num Go.MuLone

theorem StM.new (w : World) (sz : Int) : StM (w.alloc (.cells (stC 0 sz (List.replicate 64 0)) 164)) w.heap.size 0 sz (List.replicate 64 0) := ⟨heap_alloc_new w _, by simp⟩

theorem st_made (sz : Int) : Tryz.zeroCells164.setIfInBounds 2 (.int .i64 sz) = stC 0 sz (List.replicate 64 0) := by rfl

theorem istore (r : Rn) (A : Option Addr) (cap B : Nat) (w : World) (hB : B ≤ w.heap.size) (hr : Ints w B A r.cs) (h0 : 0 < r.cs.length) (h1 : r.cs.length ≤ 64) :
    Calls Tryz.prog 83 #[rnV r (.slice A r.cs.length cap)] w fun e w' => ∃ g, e = .returned (.pointer (some ⟨g, 0, none⟩)) ∧ w.heap.size ≤ g ∧ StM w' g 0 r.size (padR r.cs) ∧ Below w.heap.size w w' := by
  have HH := LH (InRn.start w r A cap 26 (hr.up hB))
  have HL0 := LH h0
  have HL1 := LH h1
  clear hr h0 h1
  go_enter Tryz.func83, Tryz.ntmps83
  obtain ⟨a0, a1, a2, a3⟩ := HH.out.1
  go_upto_region 1 with fail
  generalize w.alloc (.cells (rnC r.size r.base r.en (.slice A r.cs.length cap)) 26) = w1 at *
  have HS := LH (StM.new w1 r.size)
  have HH2 := LH (HH.out.alloc (.cells (stC 0 r.size (List.replicate 64 0)) 164))
  clear a0 a1 a2 a3
  obtain ⟨a0, a1, a2, a3⟩ := HH.out.1
  go_upto_region 2 with fail
  rw [st_made]
  generalize w1.alloc (.cells (stC 0 r.size (List.replicate 64 0)) 164) = w2 at *
  have HG1 : Hid (w.heap.size < w1.heap.size) := LH HH.out.2.2.1
  generalize w1.heap.size = g at *
  clear a0 a1 a2 a3
  obtain ⟨a0, a1, a2, a3⟩ := HH2.out.1
  have b3 : w2.drew.cell? ⟨w.heap.size, 3, none⟩ = some (.slice A r.cs.length cap) := a3
  have HSd : Hid (StM w2.drew g 0 r.size (List.replicate 64 0)) := LH HS.out
  have HR : Hid (Ints w2.drew w.heap.size A r.cs) := LH (HH2.out.drew).2.1
  go_region_law (refine step_copyI rfl (.tmp 11) (.tmp 13) rfl g 0 r.size rfl r.cs w.heap.size A cap HL0.out HL1.out rfl HR.out HSd.out ?_; intro w5 hs5 hb5)
  all_goals (
    have HS5 := LH hs5
    have HB5 : Hid (Below w.heap.size w w5) := LH (HH2.out.drew.2.2.2.trans (hb5.mono (Nat.le_of_lt HG1.out)))
    clear hs5 hb5 a0 a1 a2 a3 b3
    go_wp2
    go_ret
    exact ⟨g, rfl, Nat.le_of_lt HG1.out, HS5.out, HB5.out⟩)

def RowG (w : World) (g : Nat) (l : List UInt8) : Prop := w.heap[g]? = some (.cells (cellsB l) 5 (0, 0))
theorem RowG.lt {w : World} {g : Nat} {l : List UInt8} (h : RowG w g l) : g < w.heap.size := (Array.getElem?_eq_some_iff.1 h).1
theorem RowG.below {w w' : World} {g K : Nat} {l : List UInt8} (h : RowG w g l) (hb : Below K w w') (hg : g < K) : RowG w' g l := (hb.block g hg).trans h
theorem RowG.cell {w : World} {g : Nat} {l : List UInt8} (h : RowG w g l) (j : Nat) : w.cell? ⟨g, j, none⟩ = (cellsB l)[j]? := cell_of_row w g j _ _ _ h
theorem RowG.free {w : World} {g : Nat} {l : List UInt8} (h : RowG w g l) (k : Nat) : w.frozen? ⟨g, k, none⟩ = false := by
  unfold RowG at h
  simp [World.frozen?, h]
theorem RowG.set {w : World} {g : Nat} {l : List UInt8} (h : RowG w g l) (j : Nat) (m : Nat) (hm : m < 256) : RowG (w.setCell ⟨g, j, none⟩ (.int .u8 (m : Int))) g (l.set j (UInt8.ofNat m)) := by
  unfold RowG at h ⊢
  have e : cellsB (l.set j (UInt8.ofNat m)) = (cellsB l).setIfInBounds j (.int .u8 (m : Int)) := by
    unfold cellsB
    rw [List.map_set, List.setIfInBounds_toArray]
    congr 3
    have : (UInt8.ofNat m).toNat = m := by simp; omega
    rw [this]
  rw [e]
  simp [World.setCell, Array.getElem?_modify, h]
theorem grown_new {a b : World} {g g2 : Nat} (h : a.grownBy b (some g)) (h2 : a.heap.size ≤ g2) (k : Nat) (u : Value) : a.grownBy (b.setCell ⟨g2, k, none⟩ u) (some g) :=
  ⟨h.os, h.tape, h.output, by simpa [World.setCell] using h.size, fun i hi hne => (Below.heap_setCell b ⟨g2, k, none⟩ u i (by show i ≠ g2; omega)).trans (h.block i hi hne)⟩
def filR (sz o : Int) (l : List Int) (n j : Nat) : List UInt8 := peekL sz o l j ++ List.replicate (n - j) 0
theorem filR_len (sz o : Int) (l : List Int) (n j : Nat) (h : j ≤ n) : (filR sz o l n j).length = n := by
  unfold filR
  rw [List.length_append, peekL_len, List.length_replicate]; omega
theorem filR_step (sz o : Int) (l : List Int) (n j : Nat) (h : j < n) : (filR sz o l n j).set j (UInt8.ofNat (l.getD (atR sz (o + j)) 0).toNat) = filR sz o l n (j + 1) := by
  unfold filR
  have e : List.replicate (n - j) (0 : UInt8) = 0 :: List.replicate (n - (j + 1)) 0 := by
    rw [← List.replicate_succ]
    congr 1; omega
  rw [e, List.set_append_right _ _ (by rw [peekL_len]; exact Nat.le_refl _), peekL_len, Nat.sub_self]
  show peekL sz o l j ++ UInt8.ofNat _ :: _ = (peekL sz o l j ++ [_]) ++ _
  rw [List.append_assoc]
  rfl

theorem iread (g : Nat) (sz o : Int) (n : Nat) (l : List Int) (w : World) (x : StM w g 0 sz l) (h1 : 1 ≤ sz) (h2 : sz ≤ 64) (ho : 0 ≤ o) (hn : o + (n : Int) ≤ 4611686018427387903) (hn64 : n ≤ 64) (hby : ∀ z ∈ l, 0 ≤ z ∧ z ≤ 255) :
    Calls Tryz.prog 99 #[.pointer (some ⟨g, 0, none⟩), .int .i64 o, .int .i64 (n : Int)] w fun e w' => e = .returned (.string ⟨(peekL sz o l n).toArray⟩) ∧ w.grownBy w' (some g) := by
  have H1 := LH (x.lock 1)
  have HG := LH (only_setI w g 0 (.int .i32 1))
  have c0 := x.c0
  have f0 := x.free 0
  have hl64 := x.2
  have hgw := x.lt
  have hmk := make_row n (by omega)
  have HBY := LH hby
  have hz0 : (w.setCell ⟨g, 0, none⟩ (.int .i32 1)).heap.size = w.heap.size := by simp [World.setCell]
  clear x hby
  go_enter_defers Tryz.func99, Tryz.ntmps99
  go_wp2_with (go_at_call 127; refine (lock_free muLib ⟨g, 0, none⟩ _ c0 f0).mono ?_; rintro e w' ⟨rfl, rfl⟩)
  clear c0 f0 hmk
  have HS0 : Hid (StM ((w.setCell ⟨g, 0, none⟩ (.int .i32 1)).alloc (.cells (cellsB (List.replicate n 0)) 5)) g 1 sz l) := LH (H1.out.below ((Below.refl _ _).alloc (Nat.le_refl _) _) H1.out.lt)
  have HR0 : Hid (RowG ((w.setCell ⟨g, 0, none⟩ (.int .i32 1)).alloc (.cells (cellsB (List.replicate n 0)) 5)) w.heap.size (filR sz o l n 0)) := LH (by
    have h := heap_alloc_new (w.setCell ⟨g, 0, none⟩ (.int .i32 1)) (.cells (cellsB (List.replicate n 0)) 5)
    rw [hz0] at h
    exact h)
  have HG0 : Hid (w.grownBy ((w.setCell ⟨g, 0, none⟩ (.int .i32 1)).alloc (.cells (cellsB (List.replicate n 0)) 5)) (some g)) := LH (grown_moreN HG.out ((Below.refl _ _).alloc (Nat.le_refl _) _))
  clear H1 HG hz0
  generalize (w.setCell ⟨g, 0, none⟩ (.int .i32 1)).alloc (.cells (cellsB (List.replicate n 0)) 5) = w1 at *
  go_loopw [20] (fun i wr => ∃ j : Nat, j ≤ n ∧ i = .int .i64 j ∧ StM wr g 1 sz l ∧ RowG wr w.heap.size (filR sz o l n j) ∧ w.grownBy wr (some g)) (fun i _ => n - (intOf i).toNat)
  case atStart => exact ⟨0, Nat.zero_le _, rfl, HS0.out, HR0.out, HG0.out⟩
  case round =>
    obtain ⟨j, hj, rfl, hst, hrw, hgr⟩ := hrel
    have HS := LH hst
    have HW := LH hrw
    have HR := LH hgr
    clear hst hrw hgr HS0 HR0 HG0
    by_cases hlt : j < n
    · have HCO := LH (icellof g 1 sz (o + (j : Int)) _ wr HS.out h1 h2 (by omega))
      have hsum : IntKind.i64.wrap (o + (j : Int)) = o + (j : Int) := by rw [IntKind.wrap_i64]; omega
      have hat := atR_lt h1 (o + (j : Int))
      have hkl : atR sz (o + (j : Int)) < l.length := by omega
      have HF : Hid ((filR sz o l n j).set j (UInt8.ofNat (l.getD (atR sz (o + j)) 0).toNat) = filR sz o l n (j + 1)) := LH (filR_step sz o l n j hlt)
      rw [List.getD_eq_getElem?_getD, List.getElem?_eq_getElem hkl, Option.getD_some] at HF
      have hz := HBY.out _ (List.getElem_mem hkl)
      have HAT : Hid (∀ W, StM W g 1 sz l → W.cell? ⟨g, 3 + atR sz (o + (j : Int)), none⟩ = some (.int .i64 l[atR sz (o + (j : Int))])) := LH fun W h => h.at _ hkl
      generalize l[atR sz (o + (j : Int))] = z at *
      obtain ⟨m, rfl⟩ := Int.eq_ofNat_of_zero_le hz.1
      rw [Int.toNat_natCast] at HF
      have hcv : IntKind.u8.wrap (m : Int) = (m : Int) := by rw [IntKind.wrap_u8']; omega
      have hm : m < 256 := by omega
      generalize atR sz (o + (j : Int)) = k at *
      have hj0 : (0 : Int) ≤ (j : Int) := by omega
      have hj1 : (j : Int) < (n : Int) := by omega
      clear hat hkl hz
      go_wp2_with fail
      refine HCO.out.mono ?_
      rintro e w2 ⟨rfl, hb2⟩
      have HS2 := LH (HS.out.below hb2 HS.out.lt)
      have HW2 := LH (HW.out.below hb2 HW.out.lt)
      have HR2 := LH (grown_moreN HR.out hb2)
      have hc := HAT.out w2 HS2.out
      obtain ⟨y, hy⟩ : ∃ y, w2.cell? ⟨w.heap.size, j, none⟩ = some y := ⟨_, (HW2.out.cell j).trans (Array.getElem?_eq_getElem (by rw [cellsB_size, filR_len _ _ _ _ _ hj]; exact hlt))⟩
      have hfz := HW2.out.free j
      have HW3 := LH (HW2.out.set j m hm)
      rw [HF.out] at HW3
      have HS3 : Hid (StM (w2.setCell ⟨w.heap.size, j, none⟩ (.int .u8 (m : Int))) g 1 sz l) := LH ⟨(Below.heap_setCell w2 ⟨w.heap.size, j, none⟩ (.int .u8 (m : Int)) g (by show g ≠ w.heap.size; omega)).trans HS2.out.1, HS2.out.2⟩
      have HR3 := LH (grown_new HR2.out (Nat.le_refl _) j (.int .u8 (m : Int)))
      clear hb2
      go_wp2
      go_roundw
      case rel => exact ⟨j + 1, hlt, by go_num, HS3.out, HW3.out, HR3.out⟩
      case measure => simp [intOf]; omega
    · obtain rfl : j = n := by omega
      have e0 : filR sz o l j j = peekL sz o l j := by unfold filR; rw [Nat.sub_self]; simp
      rw [e0] at HW
      have hpl := peekL_len sz o l j
      have hcvt := conv_row wr w.heap.size (peekL sz o l j) j (fun q _ => HW.out.cell q)
      rw [hpl] at hcvt
      have HS3 := LH (HS.out.lock 0)
      have HR3 := LH (only_moreI HR.out 0 (.int .i32 0))
      go_wp2
      refine leaves_cons (f := 128) (args := #[.pointer (some ⟨g, 0, none⟩)]) (by simp) (by simp [go_sem]) ?_
      refine (unlock_deferred muLib ⟨g, 0, none⟩ .returning _ HS.out.c0 (HS.out.free 0)).mono ?_
      rintro e u' w'' ⟨rfl, rfl, rfl⟩
      exact ⟨_, results_tmp rfl _ _ _, rfl, HR3.out⟩
end Go.Proofs.YtdaoaedkjoknmaaGreat

namespace Go.Proofs.YtdaoaedkjoknmaaGreat
open Go.RowKit Go.Deep Go.Proofs.YtdaoaedkjoknmaaGreat.Num

theorem putR_congr {sz e : Int} {d d' : ByteArray} (l : List Int) (n : Nat) (h : ∀ k, k < n → byt8 d k = byt8 d' k) : putR sz e d l n = putR sz e d' l n := by
  induction n with
  | zero => rfl
  | succ n ih =>
    show (putR sz e d l n).set _ (byt8 d n) = (putR sz e d' l n).set _ (byt8 d' n)
    rw [ih (fun k hk => h k (by omega)), h n (Nat.lt_succ_self n)]
theorem ext_size {d : ByteArray} {n : Nat} (h : n ≤ d.size) : (d.extract 0 n).size = n := by rw [ByteArray.size_extract]; omega
theorem putR_ext {sz e : Int} {d : ByteArray} (l : List Int) {n : Nat} (h : n ≤ d.size) : putR sz e (d.extract 0 n) l n = putR sz e d l n := by
  refine putR_congr l n fun k hk => ?_
  have h1 : k < (d.extract 0 n).size := by rw [ext_size h]; exact hk
  rw [byt8_at _ k h1, byt8_at d k (by omega)]
  simp [ByteArray.getElem_extract]
theorem wrR_zero {r : Rn} {d : ByteArray} (h : cntW r d = 0) : wrR r d = r := by
  unfold wrR
  rw [h]
  show (⟨r.size, r.base, r.en + 0, r.cs⟩ : Rn) = r
  rw [Int.add_zero]
theorem IrN.grown {w : World} {x : Rn} {u : Value} {W W' : World} {g : Nat} (h : IrN w x u W) (hg : W.grownBy W' (some g)) (h2 : w.heap.size + 2 ≤ g) : IrN w x u W' :=
  h.up ((Below.refl (w.heap.size + 2) W).grown hg (Nat.lt_of_lt_of_le h.o.lt (Nat.le_refl _)) (fun k hk => by injection hk with hk; omega))

theorem iwriter (r : Rn) (d : ByteArray) (A : Option Addr) (cap B : Nat) (w : World) (hB : B ≤ w.heap.size) (hr : Ints w B A r.cs) (hn : r.cs.length ≤ 1000000000) (hx : inRn r) (hd : d.size ≤ 1000000000) :
    Calls Tryz.prog 30 #[rnV r (.slice A r.cs.length cap), .string d] w fun e w' => ∃ v, e = .returned (.tuple #[rnV (wrR r d) v, .int .i64 (cntW r d : Nat)]) ∧ OwnK w' w.heap.size v (wrR r d).cs ∧ Below w.heap.size w w' := by
  have HH := LH (IrN.start w r (.slice A r.cs.length cap))
  have HRO : Hid (∀ W, Below w.heap.size w W → Calls Tryz.prog 82 #[rnV r (.slice A r.cs.length cap)] W fun e w' => e = .returned (.int .i64 (roomR r)) ∧ Below W.heap.size W w') := LH fun W h => iroom r A cap B W (Nat.le_trans hB h.size) (hr.below hB h) hn hx
  have hcn := cntW_in r d
  have hmin : (if (d.size : Int) < roomR r then (d.size : Int) else roomR r) = (cntW r d : Int) := by rw [hcn]; split <;> omega
  have HMN := LH hmin
  have hcd : cntW r d ≤ d.size := by omega
  by_cases h0 : cntW r d = 0
  · have HCL : Hid (∀ W, Below w.heap.size w W → Calls Tryz.prog 80 #[rnV r (.slice A r.cs.length cap)] W fun e w' => ∃ v, e = .returned (rnV r v) ∧ OwnK w' W.heap.size v r.cs ∧ Below W.heap.size W w') := LH fun W h => iclonern r A cap B W (Nat.le_trans hB h.size) (hr.below hB h) hn
    rw [wrR_zero h0, h0]
    rw [h0] at HMN
    clear hr hn hx hcn hmin hcd h0
    go_enter Tryz.func30, Tryz.ntmps30
    obtain ⟨a0, a1, a2, a3⟩ := HH.out.b.cells
    go_wp2_with fail
    refine (HRO.out _ HH.out.bl).mono ?_
    rintro e w3 ⟨rfl, hb⟩
    have HH3 := LH (HH.out.next hb)
    clear hb a0 a1 a2 a3 HH
    go_upto_region 2 with fail
    rw [HMN.out]
    generalize roomR r = rm at *
    clear HMN HRO
    obtain ⟨a0, a1, a2, a3⟩ := HH3.out.b.cells
    go_wp2_with fail
    refine (HCL.out _ HH3.out.bl).mono ?_
    rintro e w4 ⟨v, rfl, ho, hb⟩
    have HH4 := LH (HH3.out.next hb)
    have HO4 := LH (ho.weaken HH3.out.o.lt)
    obtain ⟨A3, c3, rfl, _, _⟩ := ho.frs
    clear ho hb a0 a1 a2 a3 HH3 HCL
    obtain ⟨q0, q1, q2, q3⟩ := HH4.out.o.cells
    have qf := HH4.out.o.free
    go_wp2
    have X := HH4.out.out r.size r.base r.en (.slice A3 r.cs.length c3) _ HO4.out
    refine bodyPost_ret (results_ct rfl _ _ (w.heap.size + 1) _ _ _ _ rfl X.1 Tryz.underlying26 rfl (by kernel_rfl)) rfl ?_
    exact ⟨_, rfl, X.2.1, X.2.2⟩
  have hok : okRn r := by
    refine Classical.byContradiction fun h => h0 (cntW_bad d h)
  have hwo := wrR_ok d hok
  have hen4 : r.en + (cntW r d : Int) ≤ 4611686018427387903 := hwo.2.2.2.2.2.1
  have hz1 := hok.1.lo
  have hz2 := hok.2.1
  have hz3 : 0 ≤ r.en := by have := hok.2.2.1; have := hok.2.2.2.1; omega
  have HST : Hid (∀ W, Below w.heap.size w W → Calls Tryz.prog 83 #[rnV r (.slice A r.cs.length cap)] W fun e w' => ∃ g, e = .returned (.pointer (some ⟨g, 0, none⟩)) ∧ W.heap.size ≤ g ∧ StM w' g 0 r.size (padR r.cs) ∧ Below W.heap.size W w') := LH fun W h => istore r A cap B W (Nat.le_trans hB h.size) (hr.below hB h) (by omega) (by omega)
  have hen : wrap64 (r.en + (cntW r d : Int)) = r.en + (cntW r d : Int) := by clear hx; unfold wrap64; omega
  have HEN := LH hen
  have hpp := putR_pad (e := r.en) d hz1.1 hz2 (cntW r d)
  have HPX : Hid (putR r.size r.en (d.extract 0 (cntW r d)) (padR r.cs) (d.extract 0 (cntW r d)).size = putR r.size r.en d (padR r.cs) (cntW r d)) := LH (by rw [ext_size hcd, putR_ext _ hcd])
  have hxs : (d.extract 0 (cntW r d)).size = cntW r d := ext_size hcd
  unfold wrR
  generalize cntW r d = n at *
  have d0 : ((n : Int) == 0) = false := by
    have : (n : Int) ≠ 0 := by omega
    simpa using this
  have hk0 : (0 : Int) ≤ (n : Int) := by omega
  have hk1 : (n : Int) ≤ (d.size : Int) := by omega
  clear hr hn hx hcn hmin hen hok hwo
  go_enter Tryz.func30, Tryz.ntmps30
  obtain ⟨a0, a1, a2, a3⟩ := HH.out.b.cells
  go_wp2_with fail
  refine (HRO.out _ HH.out.bl).mono ?_
  rintro e w3 ⟨rfl, hb⟩
  have HH3 := LH (HH.out.next hb)
  clear hb a0 a1 a2 a3 HH
  go_upto_region 2 with fail
  rw [HMN.out]
  generalize roomR r = rm at *
  clear HMN HRO
  obtain ⟨a0, a1, a2, a3⟩ := HH3.out.b.cells
  go_wp2_with fail
  refine (HST.out _ HH3.out.bl).mono ?_
  rintro e w4 ⟨g, rfl, hg, hst, hb⟩
  have HH4 := LH (HH3.out.next hb)
  have HGG : Hid (w.heap.size + 2 ≤ g) := LH (Nat.le_trans HH3.out.o.lt hg)
  have HS4 := LH hst
  clear hst hb hg a0 a1 a2 a3 HH3 HST
  have HCW : Hid (∀ W, Below w4.heap.size w4 W → Calls Tryz.prog 84 #[.pointer (some ⟨g, 0, none⟩), .int .i64 r.en, .string (d.extract 0 n)] W fun e w' => e = .returned (.tuple #[]) ∧ StM w' g 0 r.size (putR r.size r.en (d.extract 0 n) (padR r.cs) (d.extract 0 n).size) ∧ W.grownBy w' (some g)) := LH fun W h => iwrite g r.size r.en (d.extract 0 n) (padR r.cs) W (HS4.out.below h HS4.out.lt) hz1.1 hz1.2 hz3 (by rw [hxs]; exact hen4)
  obtain ⟨a0, a1, a2, a3⟩ := HH4.out.b.cells
  go_upto_region 5 with fail
  go_region_with (first | (go_at_call 84; refine (HCW.out _ (Below.refl w4.heap.size w4).drew).mono ?_; rintro e w5 ⟨rfl, hst, hgr⟩; have HS5 := LH hst; have HG5 := LH hgr; clear hst hgr))
  all_goals (
    have HH5 := LH (HH4.out.drew.grown HG5.out HGG.out)
    rw [HPX.out] at HS5
    have HLI := LH (ilistn g r.cs.length (putR r.size r.en d (padR r.cs) n) w5 (by rw [hz2]; exact HS5.out) (by omega))
    rw [hpp] at HLI
    clear a0 a1 a2 a3 HH4 HCW HG5
    obtain ⟨a0, a1, a2, a3⟩ := HH5.out.b.cells
    have af := HH5.out.b.free
    go_wp2_with fail
    refine HLI.out.mono ?_
    rintro e w6 ⟨v, rfl, ho, hgr⟩
    have HH6 := LH (HH5.out.grown hgr HGG.out)
    have HO6 := LH (ho.weaken HH5.out.o.lt)
    obtain ⟨A3, c3, rfl, _, _⟩ := ho.frs
    clear ho hgr a0 a1 a2 a3 af HLI HS5 HH5
    obtain ⟨a0, a1, a2, a3⟩ := HH6.out.b.cells
    have af := HH6.out.b.free
    go_upto_region 7 with fail
    have HH7 := LH (HH6.out.put3 (putR r.size r.en d r.cs n) (.slice A3 (putR r.size r.en d r.cs n).length c3))
    have HO7 := LH (HO6.out.apart w.heap.size 3 (.slice A3 (putR r.size r.en d r.cs n).length c3) (by omega))
    clear a0 a1 a2 a3 af HH6 HO6
    generalize w6.setCell ⟨w.heap.size, 3, none⟩ (.slice A3 (putR r.size r.en d r.cs n).length c3) = w7 at *
    obtain ⟨a0, a1, a2, a3⟩ := HH7.out.b.cells
    have af := HH7.out.b.free
    have hen := HEN.out
    go_upto_region 8 with fail
    have HH8 := LH (HH7.out.put2 (r.en + (n : Int)))
    have HO8 := LH (HO7.out.apart w.heap.size 2 (.int .i64 (r.en + (n : Int))) (by omega))
    clear a0 a1 a2 a3 af HH7 HO7 hen
    generalize w7.setCell ⟨w.heap.size, 2, none⟩ (.int .i64 (r.en + (n : Int))) = w8 at *
    obtain ⟨a0, a1, a2, a3⟩ := HH8.out.b.cells
    simp only at a0 a1 a2 a3
    obtain ⟨q0, q1, q2, q3⟩ := HH8.out.o.cells
    have qf := HH8.out.o.free
    go_wp2
    have X := HH8.out.out r.size r.base (r.en + (n : Int)) _ _ HO8.out
    refine bodyPost_ret (results_ct rfl _ _ (w.heap.size + 1) _ _ _ _ rfl X.1 Tryz.underlying26 rfl (by kernel_rfl)) rfl ?_
    exact ⟨_, rfl, X.2.1, X.2.2⟩)

theorem idropr (r : Rn) (t : Int) (A : Option Addr) (cap B : Nat) (w : World) (hB : B ≤ w.heap.size) (hr : Ints w B A r.cs) (hn : r.cs.length ≤ 1000000000) (hx : inRn r) :
    Calls Tryz.prog 54 #[rnV r (.slice A r.cs.length cap), .int .i64 t] w fun e w' => ∃ v, e = .returned (.tuple #[rnV (drR r t) v, .bool (decide (canD r t))]) ∧ OwnK w' w.heap.size v (drR r t).cs ∧ Below w.heap.size w w' := by
  have HH := LH (IrN.start w r (.slice A r.cs.length cap))
  have HIR : Hid (∀ W, Below w.heap.size w W → Calls Tryz.prog 72 #[rnV r (.slice A r.cs.length cap)] W fun e w' => e = .returned (.bool (decide (okRn r))) ∧ Below W.heap.size W w') := LH fun W h => iisrn r A cap B W (Nat.le_trans hB h.size) (hr.below hB h) hn hx
  have HRE := LH fun W => ireachn r t (.slice A r.cs.length cap) W
  have HCL : Hid (∀ W, Below w.heap.size w W → Calls Tryz.prog 80 #[rnV r (.slice A r.cs.length cap)] W fun e w' => ∃ v, e = .returned (rnV r v) ∧ OwnK w' W.heap.size v r.cs ∧ Below W.heap.size W w') := LH fun W h => iclonern r A cap B W (Nat.le_trans hB h.size) (hr.below hB h) hn
  by_cases hok : okRn r
  rotate_left
  · have hno : ¬ canD r t := fun h => hok h.1
    rw [show drR r t = r from if_neg hno, decide_eq_false hno]
    rw [decide_eq_false hok] at HIR
    clear hok hno hr hn hx HRE
    go_enter Tryz.func54, Tryz.ntmps54
    obtain ⟨a0, a1, a2, a3⟩ := HH.out.b.cells
    go_wp2_with fail
    refine (HIR.out _ HH.out.bl).mono ?_
    rintro e w3 ⟨rfl, hb⟩
    have HH3 := LH (HH.out.next hb)
    clear hb a0 a1 a2 a3 HH
    obtain ⟨a0, a1, a2, a3⟩ := HH3.out.b.cells
    go_wp2_with fail
    refine (HCL.out _ HH3.out.bl).mono ?_
    rintro e w4 ⟨v, rfl, ho, hb⟩
    have HH4 := LH (HH3.out.next hb)
    have HO4 := LH (ho.weaken HH3.out.o.lt)
    obtain ⟨A3, c3, rfl, _, _⟩ := ho.frs
    clear ho hb a0 a1 a2 a3 HH3 HCL
    obtain ⟨q0, q1, q2, q3⟩ := HH4.out.o.cells
    have qf := HH4.out.o.free
    go_wp2
    have X := HH4.out.out r.size r.base r.en (.slice A3 r.cs.length c3) _ HO4.out
    refine bodyPost_ret (results_ct rfl _ _ (w.heap.size + 1) _ _ _ _ rfl X.1 Tryz.underlying26 rfl (by kernel_rfl)) rfl ?_
    exact ⟨_, rfl, X.2.1, X.2.2⟩
  rw [decide_eq_true hok] at HIR
  by_cases h0 : r.base ≤ t ∧ t ≤ r.en
  rotate_left
  · have hno : ¬ canD r t := fun h => h0 h.2
    rw [show drR r t = r from if_neg hno, decide_eq_false hno]
    rw [decide_eq_false h0] at HRE
    clear hok hno hr hn hx h0
    go_enter Tryz.func54, Tryz.ntmps54
    obtain ⟨a0, a1, a2, a3⟩ := HH.out.b.cells
    go_wp2_with fail
    refine (HIR.out _ HH.out.bl).mono ?_
    rintro e w3 ⟨rfl, hb⟩
    have HH3 := LH (HH.out.next hb)
    clear hb a0 a1 a2 a3 HH
    obtain ⟨a0, a1, a2, a3⟩ := HH3.out.b.cells
    go_wp2_with fail
    refine (HRE.out _).mono ?_
    rintro e w3' ⟨rfl, hb⟩
    have HH3 := LH (HH3.out.next hb)
    clear hb a0 a1 a2 a3
    obtain ⟨a0, a1, a2, a3⟩ := HH3.out.b.cells
    go_wp2_with fail
    refine (HCL.out _ HH3.out.bl).mono ?_
    rintro e w4 ⟨v, rfl, ho, hb⟩
    have HH4 := LH (HH3.out.next hb)
    have HO4 := LH (ho.weaken HH3.out.o.lt)
    obtain ⟨A3, c3, rfl, _, _⟩ := ho.frs
    clear ho hb a0 a1 a2 a3 HH3 HCL
    obtain ⟨q0, q1, q2, q3⟩ := HH4.out.o.cells
    have qf := HH4.out.o.free
    go_wp2
    have X := HH4.out.out r.size r.base r.en (.slice A3 r.cs.length c3) _ HO4.out
    refine bodyPost_ret (results_ct rfl _ _ (w.heap.size + 1) _ _ _ _ rfl X.1 Tryz.underlying26 rfl (by kernel_rfl)) rfl ?_
    exact ⟨_, rfl, X.2.1, X.2.2⟩
  rw [decide_eq_true h0] at HRE
  have hyes : canD r t := ⟨hok, h0.1, h0.2⟩
  obtain ⟨n, hnn⟩ : ∃ n : Nat, (t - r.base).toNat = n := ⟨_, rfl⟩
  rw [show drR r t = ⟨r.size, t, r.en, zerR r.size r.base r.cs (t - r.base).toNat⟩ from if_pos hyes, decide_eq_true hyes, hnn]
  obtain rfl : t = r.base + (n : Int) := by omega
  have hz1 := hok.1.lo
  have hz2 := hok.2.1
  have hz3 := hok.2.2.1
  have hz4 := hok.2.2.2.2.2.1
  have hz5 := h0.2
  have HST : Hid (∀ W, Below w.heap.size w W → Calls Tryz.prog 83 #[rnV r (.slice A r.cs.length cap)] W fun e w' => ∃ g, e = .returned (.pointer (some ⟨g, 0, none⟩)) ∧ W.heap.size ≤ g ∧ StM w' g 0 r.size (padR r.cs) ∧ Below W.heap.size W w') := LH fun W h => istore r A cap B W (Nat.le_trans hB h.size) (hr.below hB h) (by omega) (by omega)
  have hpp := zerR_pad (e := r.base) hz1.1 hz2 n
  clear hok hyes hr hn hx hnn h0 HCL
  go_enter Tryz.func54, Tryz.ntmps54
  obtain ⟨a0, a1, a2, a3⟩ := HH.out.b.cells
  go_wp2_with fail
  refine (HIR.out _ HH.out.bl).mono ?_
  rintro e w3 ⟨rfl, hb⟩
  have HH3 := LH (HH.out.next hb)
  clear hb a0 a1 a2 a3 HH
  obtain ⟨a0, a1, a2, a3⟩ := HH3.out.b.cells
  go_wp2_with fail
  refine (HRE.out _).mono ?_
  rintro e w3' ⟨rfl, hb⟩
  have HH3 := LH (HH3.out.next hb)
  clear hb a0 a1 a2 a3
  obtain ⟨a0, a1, a2, a3⟩ := HH3.out.b.cells
  go_wp2_with fail
  refine (HST.out _ HH3.out.bl).mono ?_
  rintro e w4 ⟨g, rfl, hg, hst, hb⟩
  have HH4 := LH (HH3.out.next hb)
  have HGG : Hid (w.heap.size + 2 ≤ g) := LH (Nat.le_trans HH3.out.o.lt hg)
  have HS4 := LH hst
  clear hst hb hg a0 a1 a2 a3 HH3 HST
  have HCW := LH (iwipe g r.size r.base n (padR r.cs) w4 HS4.out hz1.1 hz1.2 hz3 (by omega))
  obtain ⟨a0, a1, a2, a3⟩ := HH4.out.b.cells
  go_wp2_with fail
  refine HCW.out.mono ?_
  rintro e w5 ⟨rfl, hst, hgr⟩
  have HH5 := LH (HH4.out.grown hgr HGG.out)
  have HLI := LH (ilistn g r.cs.length (zerR r.size r.base (padR r.cs) n) w5 (by rw [hz2]; exact hst) (by omega))
  rw [hpp] at HLI
  clear a0 a1 a2 a3 HH4 HCW hst hgr
  obtain ⟨a0, a1, a2, a3⟩ := HH5.out.b.cells
  have af := HH5.out.b.free
  go_wp2_with fail
  refine HLI.out.mono ?_
  rintro e w6 ⟨v, rfl, ho, hgr⟩
  have HH6 := LH (HH5.out.grown hgr HGG.out)
  have HO6 := LH (ho.weaken HH5.out.o.lt)
  obtain ⟨A3, c3, rfl, _, _⟩ := ho.frs
  clear ho hgr a0 a1 a2 a3 af HLI HH5
  obtain ⟨a0, a1, a2, a3⟩ := HH6.out.b.cells
  have af := HH6.out.b.free
  go_upto_region 6 with fail
  have HH7 := LH (HH6.out.put3 (zerR r.size r.base r.cs n) (.slice A3 (zerR r.size r.base r.cs n).length c3))
  have HO7 := LH (HO6.out.apart w.heap.size 3 (.slice A3 (zerR r.size r.base r.cs n).length c3) (by omega))
  clear a0 a1 a2 a3 af HH6 HO6
  generalize w6.setCell ⟨w.heap.size, 3, none⟩ (.slice A3 (zerR r.size r.base r.cs n).length c3) = w7 at *
  obtain ⟨a0, a1, a2, a3⟩ := HH7.out.b.cells
  have af := HH7.out.b.free
  go_upto_region 7 with fail
  have HH8 := LH (HH7.out.put1 (r.base + (n : Int)))
  have HO8 := LH (HO7.out.apart w.heap.size 1 (.int .i64 (r.base + (n : Int))) (by omega))
  clear a0 a1 a2 a3 af HH7 HO7
  generalize w7.setCell ⟨w.heap.size, 1, none⟩ (.int .i64 (r.base + (n : Int))) = w8 at *
  obtain ⟨a0, a1, a2, a3⟩ := HH8.out.b.cells
  simp only at a0 a1 a2 a3
  obtain ⟨q0, q1, q2, q3⟩ := HH8.out.o.cells
  have qf := HH8.out.o.free
  go_wp2
  have X := HH8.out.out r.size (r.base + (n : Int)) r.en _ _ HO8.out
  refine bodyPost_ret (results_ct rfl _ _ (w.heap.size + 1) _ _ _ _ rfl X.1 Tryz.underlying26 rfl (by kernel_rfl)) rfl ?_
  exact ⟨_, rfl, X.2.1, X.2.2⟩

theorem ipeekr (r : Rn) (o n : Int) (A : Option Addr) (cap B : Nat) (w : World) (hB : B ≤ w.heap.size) (hr : Ints w B A r.cs) (hn : r.cs.length ≤ 1000000000) (hx : inRn r) :
    Calls Tryz.prog 40 #[rnV r (.slice A r.cs.length cap), .int .i64 o, .int .i64 n] w fun e w' => e = .returned (.tuple #[.string (pkR r o n), .bool (decide (canP r o n))]) ∧ Below w.heap.size w w' := by
  have HH := LH (InRn.start w r A cap 26 (hr.up hB))
  have HIR : Hid (∀ W, InRn w w.heap.size r A cap W → Calls Tryz.prog 72 #[rnV r (.slice A r.cs.length cap)] W fun e w' => e = .returned (.bool (decide (okRn r))) ∧ Below W.heap.size W w') := LH fun W h => iisrn r A cap w.heap.size W (Nat.le_of_lt h.2.2.1) h.2.1 hn hx
  have HRE := LH fun W => ireachn r o (.slice A r.cs.length cap) W
  by_cases hok : okRn r
  rotate_left
  · have hno : ¬ canP r o n := fun h => hok h.1
    have HV : Hid (Value.tuple #[.string (pkR r o n), .bool (decide (canP r o n))] = .tuple #[.string ⟨#[]⟩, .bool false]) := LH (by unfold pkR; rw [if_neg hno, decide_eq_false hno])
    rw [decide_eq_false hok] at HIR
    clear hok hno hr hn hx HRE
    go_enter Tryz.func40, Tryz.ntmps40
    obtain ⟨a0, a1, a2, a3⟩ := HH.out.1
    go_wp2_with fail
    refine (HIR.out _ HH.out).mono ?_
    rintro e w1 ⟨rfl, hb1⟩
    have HH := LH (HH.out.next hb1)
    clear hb1 a0 a1 a2 a3
    obtain ⟨a0, a1, a2, a3⟩ := HH.out.1
    go_wp2
    go_ret2
    exact ⟨by rw [HV.out]; rfl, HH.out.2.2.2⟩
  rw [decide_eq_true hok] at HIR
  by_cases h0 : r.base ≤ o ∧ o ≤ r.en
  rotate_left
  · have hno : ¬ canP r o n := fun h => h0 ⟨h.2.1, h.2.2.2.1⟩
    have HV : Hid (Value.tuple #[.string (pkR r o n), .bool (decide (canP r o n))] = .tuple #[.string ⟨#[]⟩, .bool false]) := LH (by unfold pkR; rw [if_neg hno, decide_eq_false hno])
    rw [decide_eq_false h0] at HRE
    clear hok hno hr hn hx h0
    go_enter Tryz.func40, Tryz.ntmps40
    obtain ⟨a0, a1, a2, a3⟩ := HH.out.1
    go_wp2_with fail
    refine (HIR.out _ HH.out).mono ?_
    rintro e w1 ⟨rfl, hb1⟩
    have HH := LH (HH.out.next hb1)
    clear hb1 a0 a1 a2 a3
    obtain ⟨a0, a1, a2, a3⟩ := HH.out.1
    go_wp2_with fail
    refine (HRE.out _).mono ?_
    rintro e w1 ⟨rfl, hb1⟩
    have HH := LH (HH.out.next hb1)
    clear hb1 a0 a1 a2 a3
    obtain ⟨a0, a1, a2, a3⟩ := HH.out.1
    go_wp2
    go_ret2
    exact ⟨by rw [HV.out]; rfl, HH.out.2.2.2⟩
  rw [decide_eq_true h0] at HRE
  by_cases h1 : n < 0
  · have hno : ¬ canP r o n := fun h => by have := h.2.2.1; omega
    have HV : Hid (Value.tuple #[.string (pkR r o n), .bool (decide (canP r o n))] = .tuple #[.string ⟨#[]⟩, .bool false]) := LH (by unfold pkR; rw [if_neg hno, decide_eq_false hno])
    have d1 : decide (n < 0) = true := decide_eq_true h1
    clear hok hno hr hn hx h0 h1
    go_enter Tryz.func40, Tryz.ntmps40
    obtain ⟨a0, a1, a2, a3⟩ := HH.out.1
    go_wp2_with fail
    refine (HIR.out _ HH.out).mono ?_
    rintro e w1 ⟨rfl, hb1⟩
    have HH := LH (HH.out.next hb1)
    clear hb1 a0 a1 a2 a3
    obtain ⟨a0, a1, a2, a3⟩ := HH.out.1
    go_wp2_with fail
    refine (HRE.out _).mono ?_
    rintro e w1 ⟨rfl, hb1⟩
    have HH := LH (HH.out.next hb1)
    clear hb1 a0 a1 a2 a3
    obtain ⟨a0, a1, a2, a3⟩ := HH.out.1
    go_wp2
    go_ret2
    exact ⟨by rw [HV.out]; rfl, HH.out.2.2.2⟩
  have d1 : decide (n < 0) = false := decide_eq_false h1
  obtain ⟨q, hq⟩ : ∃ q, r.en - o = q := ⟨_, rfl⟩
  have hb0 := hok.2.2.1
  have hw : wrap64 (r.en - o) = q := by have h9 := hx.2.2; rw [← hq]; clear hx; unfold wrap64; omega
  by_cases h3 : q < n
  · have hno : ¬ canP r o n := fun h => by have := h.2.2.2.2; omega
    have HV : Hid (Value.tuple #[.string (pkR r o n), .bool (decide (canP r o n))] = .tuple #[.string ⟨#[]⟩, .bool false]) := LH (by unfold pkR; rw [if_neg hno, decide_eq_false hno])
    have d3 : decide (q < n) = true := decide_eq_true h3
    clear hok hno hr hn hx h0 h1 h3 hq hb0
    go_enter Tryz.func40, Tryz.ntmps40
    obtain ⟨a0, a1, a2, a3⟩ := HH.out.1
    go_wp2_with fail
    refine (HIR.out _ HH.out).mono ?_
    rintro e w1 ⟨rfl, hb1⟩
    have HH := LH (HH.out.next hb1)
    clear hb1 a0 a1 a2 a3
    obtain ⟨a0, a1, a2, a3⟩ := HH.out.1
    go_wp2_with fail
    refine (HRE.out _).mono ?_
    rintro e w1 ⟨rfl, hb1⟩
    have HH := LH (HH.out.next hb1)
    clear hb1 a0 a1 a2 a3
    obtain ⟨a0, a1, a2, a3⟩ := HH.out.1
    go_wp2
    go_ret2
    exact ⟨by rw [HV.out]; rfl, HH.out.2.2.2⟩
  have d3 : decide (q < n) = false := decide_eq_false h3
  have hyes : canP r o n := ⟨hok, h0.1, by omega, h0.2, by omega⟩
  obtain ⟨N, rfl⟩ := Int.eq_ofNat_of_zero_le (show 0 ≤ n by omega)
  have HV : Hid (Value.tuple #[.string (pkR r o (N : Int)), .bool (decide (canP r o (N : Int)))] = .tuple #[.string ⟨(peekL r.size o r.cs N).toArray⟩, .bool true]) := LH (by unfold pkR; rw [if_pos hyes, decide_eq_true hyes, Int.toNat_natCast])
  have hz1 := hok.1.lo
  have hz2 := hok.2.1
  have hN64 : N ≤ 64 := by have := hok.2.2.2.2.1; omega
  have ho0 : 0 ≤ o := by omega
  have hoN : o + (N : Int) ≤ 4611686018427387903 := by have := hok.2.2.2.2.2.1; omega
  have hby : ∀ z ∈ padR r.cs, 0 ≤ z ∧ z ≤ 255 := fun z hz => by
    rcases List.mem_append.1 hz with h | h
    · exact hok.2.2.2.2.2.2 z h
    · rw [List.eq_of_mem_replicate h]; omega
  have HST : Hid (∀ W, InRn w w.heap.size r A cap W → Calls Tryz.prog 83 #[rnV r (.slice A r.cs.length cap)] W fun e w' => ∃ g, e = .returned (.pointer (some ⟨g, 0, none⟩)) ∧ W.heap.size ≤ g ∧ StM w' g 0 r.size (padR r.cs) ∧ Below W.heap.size W w') := LH fun W h => istore r A cap w.heap.size W (Nat.le_of_lt h.2.2.1) h.2.1 (by omega) (by omega)
  have hpp := peekL_pad (o := o) hz1.1 hz2 N
  clear hok hyes hr hn hx h0 h1 h3 hq hb0
  go_enter Tryz.func40, Tryz.ntmps40
  obtain ⟨a0, a1, a2, a3⟩ := HH.out.1
  go_wp2_with fail
  refine (HIR.out _ HH.out).mono ?_
  rintro e w1 ⟨rfl, hb1⟩
  have HH := LH (HH.out.next hb1)
  clear hb1 a0 a1 a2 a3
  obtain ⟨a0, a1, a2, a3⟩ := HH.out.1
  go_wp2_with fail
  refine (HRE.out _).mono ?_
  rintro e w1 ⟨rfl, hb1⟩
  have HH := LH (HH.out.next hb1)
  clear hb1 a0 a1 a2 a3
  obtain ⟨a0, a1, a2, a3⟩ := HH.out.1
  go_wp2_with fail
  refine (HST.out _ HH.out).mono ?_
  rintro e w4 ⟨g, rfl, hg, hst, hb⟩
  have HB4 := LH ((HH.out.next hb).2.2.2)
  have HG4 : Hid (w.heap.size ≤ g) := LH (Nat.le_trans (Nat.le_of_lt HH.out.2.2.1) hg)
  have HRD := LH (iread g r.size o N (padR r.cs) w4 hst hz1.1 hz1.2 ho0 hoN hN64 hby)
  rw [hpp] at HRD
  clear hst hb hg a0 a1 a2 a3 HST hby
  go_wp2_with fail
  refine HRD.out.mono ?_
  rintro e w5 ⟨rfl, hgr⟩
  have HB5 : Hid (Below w.heap.size w w5) := LH (HB4.out.grown hgr (by exact HB4.out.size) (fun k hk => by injection hk with hk; have := HG4.out; omega))
  clear hgr
  go_wp2
  go_ret2
  exact ⟨by rw [HV.out]; rfl, HB5.out⟩

theorem iins_no (b : Bf) (o : Int) (d : ByteArray) (A : Option Addr) (cap B : Nat) (w : World) (hB : B ≤ w.heap.size) (hr : Chs w B A b.chs) (hn : b.chs.length ≤ 1000000000) (hi : inB b.chs) (hnx : -9223372036854775808 ≤ b.next ∧ b.next ≤ 9223372036854775807) (hd : d.size ≤ maxLen) (hc : ¬ canI b o d) :
    Calls Tryz.prog 52 #[bfV b.next (.slice A b.chs.length cap), .int .i64 o, .string d] w fun e w' => ∃ v, e = .returned (bfV b.next v) ∧ OwnC w' w.heap.size v b.chs ∧ Below w.heap.size w w' := by
  have HR := LH hr
  have HIS : Hid (∀ W, B ≤ W.heap.size → Chs W B A b.chs → Calls Tryz.prog 107 #[bfV b.next (.slice A b.chs.length cap)] W fun e w' => e = .returned (.bool (decide (okB b))) ∧ Below W.heap.size W w') := LH fun W h1 h2 => iisb b A cap B W h1 h2 hn hi hnx
  have HCP : Hid (∀ W, B ≤ W.heap.size → Chs W B A b.chs → Calls Tryz.prog 106 #[bfV b.next (.slice A b.chs.length cap)] W fun e w' => ∃ v, e = .returned (bfV b.next v) ∧ OwnC w' W.heap.size v b.chs ∧ Below W.heap.size W w') := LH fun W h1 h2 => icloneb b.next b.chs A cap B W h1 h2 hn
  have HRE := LH fun W => ireachb b.next o d W hd
  have H2 := LH ((HeldB.start w b.next (.slice A b.chs.length cap)).alloc (.cells #[.int .i64 0, .slice none 0 0] 38))
  have X2 := BoxB.new (w.alloc (.cells #[.int .i64 b.next, .slice A b.chs.length cap] 38)) 0 (.slice none 0 0)
  rw [show (w.alloc (.cells #[.int .i64 b.next, .slice A b.chs.length cap] 38)).heap.size = w.heap.size + 1 by simp] at X2
  have HX2 := LH X2
  clear X2 hr hi
  have HEND : Hid (∀ w3, HeldB w b.next (.slice A b.chs.length cap) w3 → BoxB w3 (w.heap.size + 1) 0 (.slice none 0 0) → True) := LH fun _ _ _ => trivial
  obtain ⟨nx, l⟩ := b
  by_cases hok : okB ⟨nx, l⟩
  · rw [decide_eq_true hok] at HIS
    have hrf : ¬ (d.size ≠ 0 ∧ 0 ≤ o ∧ o ≤ 4611686018427387903 - (d.size : Int) ∧ nx < o + d.size) := fun h => hc ⟨hok, h.1, h.2.1, h.2.2.1, h.2.2.2⟩
    have HRE2 : Hid (∀ W, Calls Tryz.prog 108 #[.int .i64 nx, .int .i64 o, .string d] W fun e w' => e = .returned (.bool false) ∧ w' = W) := LH fun W => by
      have h := HRE.out W
      rw [decide_eq_false hrf] at h
      exact h
    dsimp only at *
    clear hok hrf hc HRE HEND
    go_enter Tryz.func52, Tryz.ntmps52
    go_upto_region 1 with fail
    generalize (w.alloc (.cells #[.int .i64 nx, .slice A l.length cap] 38)).alloc (.cells #[.int .i64 0, .slice none 0 0] 38) = w2 at *
    obtain ⟨q0, q1⟩ := H2.out.1.cells
    go_wp2_with fail
    refine (HIS.out w2 (Nat.le_trans hB H2.out.2.size) (HR.out.below hB H2.out.2)).mono ?_
    rintro e w3 ⟨rfl, hb3⟩
    have H3 := LH (H2.out.next hb3)
    have HX3 := LH (HX2.out.below hb3 HX2.out.lt)
    clear hb3 q0 q1 H2 HX2 HIS
    obtain ⟨q0, q1⟩ := H3.out.1.cells
    go_wp2_with fail
    refine (HRE2.out w3).mono ?_
    rintro e w4 ⟨rfl, rfl⟩
    go_wp2_with fail
    refine (HCP.out w4 (Nat.le_trans hB H3.out.2.size) (HR.out.below hB H3.out.2)).mono ?_
    rintro e w5 ⟨v5, rfl, ho5, hb5⟩
    have HX5 := LH (HX3.out.below hb5 HX3.out.lt)
    have HB5 := LH ((H3.out.next hb5).2)
    have hlt5 : w.heap.size + 1 < w4.heap.size := HX3.out.lt
    obtain ⟨A5, c5, rfl, _, _⟩ := ho5.frs
    have HO5 := LH ho5
    clear ho5 hb5 q0 q1 HX3 H3
    obtain ⟨p0, p1⟩ := HX5.out.cells
    have pf := HX5.out.free
    go_wp2
    refine bodyPost_ret (results_cell_row rfl _ _ (w.heap.size + 1) _ _ _ _ rfl ((HX5.out.set0 nx).set1 _) Tryz.underlying38 rfl (by kernel_rfl)) rfl ?_
    exact ⟨_, rfl, ownc_weaken ((OwnC.put HO5.out (w.heap.size + 1) 0 _ hlt5).put (w.heap.size + 1) 1 _ hlt5) (by omega), (HB5.out.setCell (p := ⟨_, _, _⟩) (by show w.heap.size ≤ w.heap.size + 1; omega) _).setCell (p := ⟨_, _, _⟩) (by show w.heap.size ≤ w.heap.size + 1; omega) _⟩
  · rw [decide_eq_false hok] at HIS
    dsimp only at *
    clear hok hc HRE HEND
    go_enter Tryz.func52, Tryz.ntmps52
    go_upto_region 1 with fail
    generalize (w.alloc (.cells #[.int .i64 nx, .slice A l.length cap] 38)).alloc (.cells #[.int .i64 0, .slice none 0 0] 38) = w2 at *
    obtain ⟨q0, q1⟩ := H2.out.1.cells
    go_wp2_with fail
    refine (HIS.out w2 (Nat.le_trans hB H2.out.2.size) (HR.out.below hB H2.out.2)).mono ?_
    rintro e w4 ⟨rfl, hb3⟩
    have H3 := LH (H2.out.next hb3)
    have HX3 := LH (HX2.out.below hb3 HX2.out.lt)
    clear hb3 q0 q1 H2 HX2 HIS
    obtain ⟨q0, q1⟩ := H3.out.1.cells
    go_wp2_with fail
    refine (HCP.out w4 (Nat.le_trans hB H3.out.2.size) (HR.out.below hB H3.out.2)).mono ?_
    rintro e w5 ⟨v5, rfl, ho5, hb5⟩
    have HX5 := LH (HX3.out.below hb5 HX3.out.lt)
    have HB5 := LH ((H3.out.next hb5).2)
    have hlt5 : w.heap.size + 1 < w4.heap.size := HX3.out.lt
    obtain ⟨A5, c5, rfl, _, _⟩ := ho5.frs
    have HO5 := LH ho5
    clear ho5 hb5 q0 q1 HX3 H3
    obtain ⟨p0, p1⟩ := HX5.out.cells
    have pf := HX5.out.free
    go_wp2
    refine bodyPost_ret (results_cell_row rfl _ _ (w.heap.size + 1) _ _ _ _ rfl ((HX5.out.set0 nx).set1 _) Tryz.underlying38 rfl (by kernel_rfl)) rfl ?_
    exact ⟨_, rfl, ownc_weaken ((OwnC.put HO5.out (w.heap.size + 1) 0 _ hlt5).put (w.heap.size + 1) 1 _ hlt5) (by omega), (HB5.out.setCell (p := ⟨_, _, _⟩) (by show w.heap.size ≤ w.heap.size + 1; omega) _).setCell (p := ⟨_, _, _⟩) (by show w.heap.size ≤ w.heap.size + 1; omega) _⟩

theorem set_far2 (w : World) (g g' k' : Nat) (a b : Value) (h : g ≠ g') : ((w.setCell ⟨g, 0, none⟩ a).setCell ⟨g, 1, none⟩ b).cell? ⟨g', k', none⟩ = w.cell? ⟨g', k', none⟩ := by
  rw [World.cell?_setCell_far _ _ _ _ (by exact h), World.cell?_setCell_far _ _ _ _ (by exact h)]
def unrC (o : Int) (k : Nat) (d : ByteArray) : Ch := ⟨o + (k : Int), d.extract k d.size⟩
theorem unrC_size (o : Int) (k : Nat) (d : ByteArray) : (unrC o k d).data.size = d.size - k := by
  show (d.extract k d.size).size = _
  rw [ByteArray.size_extract]
  omega
theorem unrC_at (o : Int) (k : Nat) (d : ByteArray) (n : Int) (h0 : o + k ≤ n) : atC (unrC o k d) n = bytD d (n - o).toNat := by
  unfold atC
  show bytD (d.extract k d.size) (n - (o + (k : Int))).toNat = _
  rw [drop_str]
  unfold bytD
  show (((d.data.toList.drop k).getD (n - (o + (k : Int))).toNat 0).toNat : Int) = _
  rw [List.getD_eq_getElem?_getD, List.getElem?_drop, List.getD_eq_getElem?_getD, show k + (n - (o + (k : Int))).toNat = (n - o).toNat by omega]

theorem iins_yes (b : Bf) (o : Int) (d : ByteArray) (A : Option Addr) (cap B : Nat) (w : World) (hB : B ≤ w.heap.size) (hr : Chs w B A b.chs) (hn : b.chs.length ≤ 1048576) (hcap : b.chs.length ≤ cap) (hi : inB b.chs) (hnx : -9223372036854775808 ≤ b.next ∧ b.next ≤ 9223372036854775807) (hsum : sumC b.chs + d.size ≤ 2097152) (hc : canI b o d) :
    Calls Tryz.prog 52 #[bfV b.next (.slice A b.chs.length cap), .int .i64 o, .string d] w fun e w' => ∃ v, e = .returned (bfV b.next v) ∧ OwnC w' w.heap.size v (insB b o d).chs ∧ Below w.heap.size w w' := by
  have HR := LH hr
  have hsn := sumC_nonneg b.chs
  have hdm : d.size ≤ maxLen := by unfold maxLen; omega
  have HIS : Hid (∀ W, B ≤ W.heap.size → Chs W B A b.chs → Calls Tryz.prog 107 #[bfV b.next (.slice A b.chs.length cap)] W fun e w' => e = .returned (.bool true) ∧ Below W.heap.size W w') := LH fun W h1 h2 => by
    have h := iisb b A cap B W h1 h2 (by omega) hi hnx
    rwa [decide_eq_true hc.1] at h
  have HRE : Hid (∀ W, Calls Tryz.prog 108 #[.int .i64 b.next, .int .i64 o, .string d] W fun e w' => e = .returned (.bool true) ∧ w' = W) := LH fun W => by
    have h := ireachb b.next o d W hdm
    rwa [decide_eq_true (show d.size ≠ 0 ∧ 0 ≤ o ∧ o ≤ 4611686018427387903 - (d.size : Int) ∧ b.next < o + d.size from ⟨hc.2.1, hc.2.2.1, hc.2.2.2.1, hc.2.2.2.2⟩)] at h
  have hc2 := hc.1.2
  have hc3 := hc.2.1
  have hc4 := hc.2.2.1
  have hc5 := hc.2.2.2.1
  have hc6 := hc.2.2.2.2
  obtain ⟨k, hk⟩ : ∃ k : Nat, (if 0 < b.next - o then b.next - o else 0) = (k : Int) := ⟨(if 0 < b.next - o then b.next - o else 0).toNat, by split <;> omega⟩
  have hk2 : o + (k : Int) = max o b.next := by rw [← hk]; split <;> omega
  have HKI : Hid ((if o < b.next then b.next - o else 0) = (k : Int)) := LH (by rw [← hk]; split <;> split <;> omega)
  have hks : k < d.size := by omega
  have hus := unrC_size o k d
  have HPC : Hid (∀ W, B ≤ W.heap.size → Chs W B A b.chs → Calls Tryz.prog 109 #[.slice A b.chs.length cap, chV (unrC o k d)] W fun e w' => ∃ v, e = .returned v ∧ OwnC w' W.heap.size v (insB b o d).chs ∧ Below W.heap.size W w') := LH fun W h1 h2 => by
    refine (iputc (unrC o k d) b.chs A cap B W h1 h2 (by omega) hcap (b.next - 1) (by omega) hc.1.1 (by show 0 ≤ o + (k : Int); omega) (by rw [hus]; show o + (k : Int) + _ ≤ _; omega) (by omega) ⟨by omega, fun x hx => by have := sumC_mem b.chs x hx; omega⟩).mono ?_
    rintro e w' ⟨v, rfl, out, ⟨L1, R, L2, J, e1, e2, e3, e4, e5, rfl⟩, ho, hb⟩
    have h := insI hc L1 R L2 e1 (unrC o k d) hk2 (by rw [hus]; show o + (k : Int) + _ = _; omega) (fun n h0 _ => unrC_at o k d n h0) e2 e3 e4 J e5
    rw [h]
    exact ⟨v, rfl, ho, hb⟩
  have H2 := LH ((HeldB.start w b.next (.slice A b.chs.length cap)).alloc (.cells #[.int .i64 0, .slice none 0 0] 38))
  have X2 := BoxB.new (w.alloc (.cells #[.int .i64 b.next, .slice A b.chs.length cap] 38)) 0 (.slice none 0 0)
  rw [show (w.alloc (.cells #[.int .i64 b.next, .slice A b.chs.length cap] 38)).heap.size = w.heap.size + 1 by simp] at X2
  have HX2 := LH X2
  generalize (insB b o d).chs = out at *
  have hw1 : IntKind.i64.wrap (b.next - o) = b.next - o := by rw [IntKind.wrap_i64]; omega
  have HW2 : Hid (IntKind.i64.wrap (o + (k : Int)) = o + (k : Int)) := LH (by rw [IntKind.wrap_i64]; omega)
  obtain ⟨nx, l⟩ := b
  dsimp only at *
  clear X2 hr hi hsum hsn hdm hc hc2 hc3 hc4 hc5 hc6 hk2 hus hnx
  go_enter Tryz.func52, Tryz.ntmps52
  go_upto_region 1 with fail
  generalize (w.alloc (.cells #[.int .i64 nx, .slice A l.length cap] 38)).alloc (.cells #[.int .i64 0, .slice none 0 0] 38) = w2 at *
  obtain ⟨q0, q1⟩ := H2.out.1.cells
  go_wp2_with fail
  refine (HIS.out w2 (Nat.le_trans hB H2.out.2.size) (HR.out.below hB H2.out.2)).mono ?_
  rintro e w3 ⟨rfl, hb3⟩
  have H3 := LH (H2.out.next hb3)
  have HX3 := LH (HX2.out.below hb3 HX2.out.lt)
  clear hb3 q0 q1 H2 HX2 HIS
  obtain ⟨q0, q1⟩ := H3.out.1.cells
  go_wp2_with fail
  refine (HRE.out w3).mono ?_
  rintro e w4 ⟨rfl, rfl⟩
  go_upto_region 4 with fail
  rw [HKI.out]
  clear hk hw1
  have hw2 := HW2.out
  have hk0 : (0 : Int) ≤ (k : Int) := by omega
  have hk1 : (k : Int) ≤ (d.size : Int) := by omega
  go_upto_region 5 with fail
  clear hw2 q0 q1
  have H5 := LH (H3.out.alloc (.cells (chC (unrC o k d)) 140))
  have HX5 := LH (HX3.out.alloc (.cells (chC (unrC o k d)) 140))
  have HK5 := LH (BoxK.new w4 (o + (k : Int)) (d.extract k d.size))
  have HS5 : Hid ((w4.alloc (.cells (chC (unrC o k d)) 140)).heap.size = w4.heap.size + 1) := LH (by simp)
  have hx4 : w.heap.size + 1 < w4.heap.size := HX3.out.lt
  have HPC2 : Hid (∀ W, B ≤ W.heap.size → Chs W B A l → Calls Tryz.prog 109 #[.slice A l.length cap, chV ⟨o + (k : Int), d.extract k d.size⟩] W fun e w' => ∃ v, e = .returned v ∧ OwnC w' W.heap.size v out ∧ Below W.heap.size W w') := LH HPC.out
  change Hid (HeldB w nx (.slice A l.length cap) (w4.alloc (.cells #[.int .i64 (o + (k : Int)), .string (d.extract k d.size)] 140))) at H5
  change Hid (BoxB (w4.alloc (.cells #[.int .i64 (o + (k : Int)), .string (d.extract k d.size)] 140)) (w.heap.size + 1) 0 (.slice none 0 0)) at HX5
  change Hid ((w4.alloc (.cells #[.int .i64 (o + (k : Int)), .string (d.extract k d.size)] 140)).heap.size = w4.heap.size + 1) at HS5
  generalize w4.alloc (.cells #[.int .i64 (o + (k : Int)), .string (d.extract k d.size)] 140) = w5 at *
  generalize w4.heap.size = g5 at *
  clear H3 HX3 HPC HRE HW2 HKI hk0 hk1
  generalize o + (k : Int) = uo at *
  generalize d.extract k d.size = ud at *
  have hs5 := HS5.out
  obtain ⟨a0, a1⟩ := H5.out.1.cells
  obtain ⟨u0, u1⟩ := HK5.out.cells
  have HSS : Hid (∀ W, Below w5.heap.size w5 W → W.cell? ⟨w.heap.size, 0, none⟩ = some (.int .i64 nx) ∧ W.cell? ⟨w.heap.size, 1, none⟩ = some (.slice A l.length cap) ∧ W.cell? ⟨g5, 0, none⟩ = some (.int .i64 uo) ∧ W.cell? ⟨g5, 1, none⟩ = some (.string ud)) := LH fun W h => ⟨(H5.out.next h).1.cells.1, (H5.out.next h).1.cells.2, (HK5.out.below h (by omega)).cells.1, (HK5.out.below h (by omega)).cells.2⟩
  have HK0 := LH (HSS.out w5.drew (Below.refl _ _).drew)
  have HXd := LH (show BoxB w5.drew (w.heap.size + 1) 0 (.slice none 0 0) from HX5.out)
  have HRW := LH (show Chs w5.drew B A l from HR.out.below hB H5.out.2.drew)
  have hBw : B ≤ w5.drew.heap.size := Nat.le_trans hB H5.out.2.size
  have HBW := LH hBw
  clear hBw u0 u1
  go_region_held3 (fun W => W.cell? ⟨w.heap.size, 0, none⟩ = some (.int .i64 nx) ∧ W.cell? ⟨w.heap.size, 1, none⟩ = some (.slice A l.length cap) ∧ W.cell? ⟨g5, 0, none⟩ = some (.int .i64 uo) ∧ W.cell? ⟨g5, 1, none⟩ = some (.string ud)) (first | with_reducible exact HK0.out | with_reducible exact HK1.out | with_reducible exact HK2.out) (first | (go_at_call 109; refine (HPC2.out _ HBW.out HRW.out).mono ?_; rintro e w6 ⟨v, rfl, ho, hb⟩; obtain ⟨A1, cap1, rfl, _, _⟩ := ho.frs; have HOW := LH ho; have HBL := LH hb; have HT := LH ((Below.refl w5.heap.size w5).drew.trans hb); have HY2 := LH (HXd.out.below hb (by show _ < w5.heap.size; omega)); obtain ⟨q2, q3⟩ := HY2.out.cells; have f3 := HY2.out.free; have HK1 := LH (HSS.out w6 HT.out); have HK2 : Hid (((w6.setCell ⟨w.heap.size + 1, 0, none⟩ (.int .i64 nx)).setCell ⟨w.heap.size + 1, 1, none⟩ (.slice A1 out.length cap1)).cell? ⟨w.heap.size, 0, none⟩ = some (.int .i64 nx) ∧ ((w6.setCell ⟨w.heap.size + 1, 0, none⟩ (.int .i64 nx)).setCell ⟨w.heap.size + 1, 1, none⟩ (.slice A1 out.length cap1)).cell? ⟨w.heap.size, 1, none⟩ = some (.slice A l.length cap) ∧ ((w6.setCell ⟨w.heap.size + 1, 0, none⟩ (.int .i64 nx)).setCell ⟨w.heap.size + 1, 1, none⟩ (.slice A1 out.length cap1)).cell? ⟨g5, 0, none⟩ = some (.int .i64 uo) ∧ ((w6.setCell ⟨w.heap.size + 1, 0, none⟩ (.int .i64 nx)).setCell ⟨w.heap.size + 1, 1, none⟩ (.slice A1 out.length cap1)).cell? ⟨g5, 1, none⟩ = some (.string ud)) := LH ⟨(set_far2 _ _ _ _ _ _ (by omega)).trans HK1.out.1, (set_far2 _ _ _ _ _ _ (by omega)).trans HK1.out.2.1, (set_far2 _ _ _ _ _ _ (by omega)).trans HK1.out.2.2.1, (set_far2 _ _ _ _ _ _ (by omega)).trans HK1.out.2.2.2⟩; clear ho hb))
  all_goals (
    go_wp2
    refine bodyPost_ret (results_cell_row rfl _ _ (w.heap.size + 1) _ _ _ _ rfl ((HY2.out.set0 nx).set1 _) Tryz.underlying38 rfl (by kernel_rfl)) rfl ?_
    exact ⟨_, rfl, ownc_weaken ((OwnC.put (base := w5.heap.size) HOW.out (w.heap.size + 1) 0 _ (by omega)).put (w.heap.size + 1) 1 _ (by omega)) (by omega), ((H5.out.2.trans (HT.out.mono H5.out.2.size)).setCell (p := ⟨_, _, _⟩) (by show w.heap.size ≤ w.heap.size + 1; omega) _).setCell (p := ⟨_, _, _⟩) (by show w.heap.size ≤ w.heap.size + 1; omega) _⟩)

theorem iinsd (b : Bf) (o : Int) (d : ByteArray) (A : Option Addr) (cap B : Nat) (w : World) (hB : B ≤ w.heap.size) (hr : Chs w B A b.chs) (hn : b.chs.length ≤ 1048576) (hcap : b.chs.length ≤ cap) (hi : inB b.chs) (hnx : -9223372036854775808 ≤ b.next ∧ b.next ≤ 9223372036854775807) (hsum : sumC b.chs + d.size ≤ 2097152) :
    Calls Tryz.prog 52 #[bfV b.next (.slice A b.chs.length cap), .int .i64 o, .string d] w fun e w' => ∃ v, e = .returned (bfV b.next v) ∧ OwnC w' w.heap.size v (insB b o d).chs ∧ Below w.heap.size w w' := by
  by_cases hc : canI b o d
  · exact iins_yes b o d A cap B w hB hr hn hcap hi hnx hsum hc
  · rw [show insB b o d = b from if_neg hc]
    exact iins_no b o d A cap B w hB hr (by omega) hi hnx (by have := sumC_nonneg b.chs; unfold maxLen; omega) hc
theorem iinsx (b : Bf) (o : Int) (d : ByteArray) (A : Option Addr) (cap B : Nat) (w : World) (hB : B ≤ w.heap.size) (hr : Chs w B A b.chs) (hn : b.chs.length ≤ 1048576) (hcap : b.chs.length ≤ cap) (hi : inB b.chs) (hnx : -9223372036854775808 ≤ b.next ∧ b.next ≤ 9223372036854775807) (hsum : sumC b.chs + d.size ≤ 2097152) :
    Calls Tryz.prog 52 #[bfV b.next (.slice A b.chs.length cap), .int .i64 o, .string d] w fun e w' => ∃ v, e = .returned (bfV b.next v) ∧ OwnX w' w.heap.size v (insB b o d).chs ∧ Below w.heap.size w w' := by
  refine (iinsd b o d A cap B w hB hr hn hcap hi hnx hsum).mono ?_
  rintro e w' ⟨v, h1, h2, h3⟩
  exact ⟨v, h1, h2.x, h3⟩
end Go.Proofs.YtdaoaedkjoknmaaGreat
