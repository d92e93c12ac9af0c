/-
  What the drawing function spec.l6Buffer returns: a small buffer.
-/
import Derived.Test.YtmaaldmakgjplaaBufN
import Derived.Test.YtmaaldmakgjplaaDrawPick
import Derived.Test.YtmaaldmakgjplaaSIns
import Derived.Test.YtmaaldmakgjplaaSTake
import Derived.Deep.DeepCutAuto
namespace Go.Proofs.Ytmaaldmakgjplaa
open Go.RowKit Go.Deep Go.Proofs.Ytmaaldmakgjplaa.Num

theorem OwnC.chs2 {w : World} {base : Nat} {A : Option Addr} {cap : Nat} {l : List Ch} (h : OwnC w base (.slice A l.length cap) l) : Chs w w.heap.size A l := by
  obtain ⟨A', cap', e, _, hc⟩ := h.frs
  injection e with e1 _ _
  subst e1
  exact hc
theorem smallB.inB {b : Bf} (h : smallB b) : inB b.chs := fun c hc => ⟨by have := h.sizes c hc; unfold maxLen; omega, h.2.2.1 c hc⟩
/-- The blocks of l6Buffer: the result's, the buffer's, its chunks, and the cursor. -/
def L6W (w : World) (g B : Nat) (A : Option Addr) (len cap : Nat) (b : Bf) (v : Value) (W : World) : Prop :=
  BoxB W w.heap.size 0 (.slice none 0 0) ∧ BoxB W (w.heap.size + 1) b.next v ∧ OwnC W (w.heap.size + 2) v b.chs ∧ w.heap.size + 2 ≤ W.heap.size ∧ Draw W g B A len cap ∧ w.grownBy W (some g) ∧ g < w.heap.size
theorem BoxB.only {w w' : World} {k g : Nat} {n : Int} {v : Value} (c : BoxB w k n v) (hg : w.grownBy w' (some g)) (hne : k ≠ g) : BoxB w' k n v :=
  (hg.block k c.lt (fun e => hne (Option.some.inj e))).trans c
theorem L6W.drawn {w : World} {g B : Nat} {A : Option Addr} {len cap : Nat} {b : Bf} {v : Value} {W W' : World} (h : L6W w g B A len cap b v W) (hg : W.grownBy W' (some g)) (hd : Draw W' g B A len cap) : L6W w g B A len cap b v W' :=
  ⟨h.1.only hg (by have := h.2.2.2.2.2.2; omega), h.2.1.only hg (by have := h.2.2.2.2.2.2; omega), h.2.2.1.only hg (by have := h.2.2.2.2.2.2; omega), Nat.le_trans h.2.2.2.1 hg.size, hd, only_trans h.2.2.2.2.2.1 hg, h.2.2.2.2.2.2⟩
theorem L6W.next {w : World} {g B : Nat} {A : Option Addr} {len cap : Nat} {b : Bf} {v : Value} {W W' : World} (h : L6W w g B A len cap b v W) (hb : Below W.heap.size W W') : L6W w g B A len cap b v W' :=
  ⟨h.1.below hb h.1.lt, h.2.1.below hb h.2.1.lt, h.2.2.1.later hb, Nat.le_trans h.2.2.2.1 hb.size, h.2.2.2.2.1.below h.2.2.2.2.1.lt hb, only_then h.2.2.2.2.2.1 (hb.mono (by have := h.2.2.2.2.2.1.size; exact this)), h.2.2.2.2.2.2⟩
theorem L6W.drew {w : World} {g B : Nat} {A : Option Addr} {len cap : Nat} {b : Bf} {v : Value} {W : World} (h : L6W w g B A len cap b v W) : L6W w g B A len cap b v W.drew := h.next (Below.refl _ _).drew
theorem only_other {a w : World} {g : Nat} (h : a.grownBy w (some g)) (k j : Nat) (u : Value) (hk : a.heap.size ≤ k) : a.grownBy (w.setCell ⟨k, j, none⟩ u) (some g) :=
  ⟨h.os, h.tape, h.output, by simpa [World.setCell] using h.size, fun i hi hne => (Below.heap_setCell w ⟨k, j, none⟩ u i (by show i ≠ k; omega)).trans (h.block i hi hne)⟩
/-- Another buffer is stored. -/
theorem L6W.put {w : World} {g B : Nat} {A : Option Addr} {len cap : Nat} {b b' : Bf} {v v' : Value} {W : World} (h : L6W w g B A len cap b v W) (ho : OwnC W (w.heap.size + 2) v' b'.chs) :
    L6W w g B A len cap b' v' ((W.setCell ⟨w.heap.size + 1, 0, none⟩ (.int .i64 b'.next)).setCell ⟨w.heap.size + 1, 1, none⟩ v') := by
  obtain ⟨h1, h2, h3, h4, h5, h6, h7⟩ := h
  refine ⟨(h1.other _ _ _ (by omega)).other _ _ _ (by omega), (h2.set0 _).set1 _, (ho.put _ _ _ (by omega)).put _ _ _ (by omega), by simpa [World.setCell] using h4, ?_, only_other (only_other h6 _ _ _ (by omega)) _ _ _ (by omega), h7⟩
  have e : Draw (W.setCell ⟨w.heap.size + 1, 0, none⟩ (.int .i64 b'.next)) g B A len cap := h5.keep fun k hk => Below.heap_setCell W ⟨w.heap.size + 1, 0, none⟩ _ k (by show k ≠ w.heap.size + 1; omega)
  exact e.keep fun k hk => Below.heap_setCell _ ⟨w.heap.size + 1, 1, none⟩ _ k (by show k ≠ w.heap.size + 1; omega)

theorem smallB_app {b : Bf} (h : smallB b) (h6 : b.chs.length ≤ 6 ∧ sumC b.chs ≤ 24) {y : Int} (y0 : 0 ≤ y) (y1 : y ≤ 100) {l : List UInt8} (hl : l.length ≤ 3) : smallB ⟨b.next, b.chs ++ [⟨y, ⟨l.toArray⟩⟩]⟩ := by
  have hsl : (⟨l.toArray⟩ : ByteArray).size = l.length := by show l.toArray.size = _; simp
  refine ⟨by simp; omega, ?_, ?_, h.2.2.2⟩
  · show sumC (b.chs ++ [_]) ≤ 100
    rw [sumC_append]
    simp only [sumC, hsl]
    omega
  · intro c hc
    rcases List.mem_append.1 hc with hc | hc
    · exact h.2.2.1 c hc
    · rw [List.mem_singleton.1 hc]
      exact ⟨by show _ ≤ y; omega, by show y ≤ _; omega⟩
theorem row_four (a b c d : Int) (w : World) (ha : -9223372036854775808 ≤ a ∧ a ≤ 9223372036854775807) (hb : -9223372036854775808 ≤ b ∧ b ≤ 9223372036854775807) (hc : -9223372036854775808 ≤ c ∧ c ≤ 9223372036854775807) (hd : -9223372036854775808 ≤ d ∧ d ≤ 9223372036854775807) :
    ∀ j, j < 4 → ∃ v : Int, (w.alloc (.cells #[.int .i64 a, .int .i64 b, .int .i64 c, .int .i64 d] 3)).cell? ⟨w.heap.size, j, none⟩ = some (.int .i64 v) ∧ -9223372036854775808 ≤ v ∧ v ≤ 9223372036854775807 := by
  intro j hj
  rw [World.cell?_alloc_at _ _ _ _ rfl]
  match j, hj with
  | 0, _ => exact ⟨a, rfl, ha⟩
  | 1, _ => exact ⟨b, rfl, hb⟩
  | 2, _ => exact ⟨c, rfl, hc⟩
  | 3, _ => exact ⟨d, rfl, hd⟩
theorem L6W.setN {w : World} {g B : Nat} {A : Option Addr} {len cap : Nat} {b : Bf} {v : Value} {W : World} (h : L6W w g B A len cap b v W) (x : Int) :
    L6W w g B A len cap ⟨x, b.chs⟩ v (W.setCell ⟨w.heap.size + 1, 0, none⟩ (.int .i64 x)) := by
  obtain ⟨h1, h2, h3, h4, h5, h6, h7⟩ := h
  exact ⟨h1.other _ _ _ (by omega), h2.set0 _, h3.put _ _ _ (by omega), by simpa [World.setCell] using h4, h5.keep fun k hk => Below.heap_setCell W ⟨w.heap.size + 1, 0, none⟩ _ k (by show k ≠ w.heap.size + 1; omega), only_other h6 _ _ _ (by omega), h7⟩
theorem L6W.app {w : World} {g B : Nat} {A : Option Addr} {len cap : Nat} {b b' : Bf} {v v' : Value} {W W' : World} {o : Obj} (h : L6W w g B A len cap b v W) (hb : Below (w.heap.size + 2) (W.alloc o) W') (ho : OwnC W' (w.heap.size + 2) v' b'.chs) (hn : b'.next = b.next) :
    BoxB W' (w.heap.size + 1) b.next v ∧ L6W w g B A len cap b' v' (W'.setCell ⟨w.heap.size + 1, 1, none⟩ v') := by
  obtain ⟨h1, h2, h3, h4, h5, h6, h7⟩ := h
  have k1 := (h1.alloc o).below hb (by omega)
  have k2 := (h2.alloc o).below hb (by omega)
  have k5 := (h5.alloc o).below (K := w.heap.size + 2) (by omega) hb
  have k6 := only_then (only_alloc h6 o) (hb.mono (by omega))
  refine ⟨k2, k1.other _ _ _ (by omega), ?_, ho.put _ _ _ (by omega), ?_, k5.keep fun k hk => Below.heap_setCell W' ⟨w.heap.size + 1, 1, none⟩ _ k (by show k ≠ w.heap.size + 1; omega), only_other k6 _ _ _ (by omega), h7⟩
  · rw [hn]; exact k2.set1 _
  · have := hb.size
    simp [World.setCell] at this ⊢
    omega
theorem L6W.fin {w : World} {g B : Nat} {A : Option Addr} {len cap : Nat} {b : Bf} {v : Value} {W : World} (h : L6W w g B A len cap b v W) (n : Int) (u : Value) :
    OwnC ((W.setCell ⟨w.heap.size, 0, none⟩ (.int .i64 n)).setCell ⟨w.heap.size, 1, none⟩ u) w.heap.size v b.chs :=
  ownc_weaken ((h.2.2.1.put w.heap.size 0 _ (by omega)).put w.heap.size 1 _ (by omega)) (by omega)
theorem L6W.fin2 {w : World} {g B : Nat} {A : Option Addr} {len cap : Nat} {b : Bf} {v : Value} {W : World} (h : L6W w g B A len cap b v W) (n : Int) (u : Value) :
    Draw ((W.setCell ⟨w.heap.size, 0, none⟩ (.int .i64 n)).setCell ⟨w.heap.size, 1, none⟩ u) g B A len cap ∧ w.grownBy ((W.setCell ⟨w.heap.size, 0, none⟩ (.int .i64 n)).setCell ⟨w.heap.size, 1, none⟩ u) (some g) := by
  obtain ⟨h1, h2, h3, h4, h5, h6, h7⟩ := h
  have e : Draw (W.setCell ⟨w.heap.size, 0, none⟩ (.int .i64 n)) g B A len cap := h5.keep fun k hk => Below.heap_setCell W ⟨w.heap.size, 0, none⟩ _ k (by show k ≠ w.heap.size; omega)
  exact ⟨e.keep fun k hk => Below.heap_setCell _ ⟨w.heap.size, 1, none⟩ _ k (by show k ≠ w.heap.size; omega), only_other (only_other h6 _ _ _ (Nat.le_refl _)) _ _ _ (Nat.le_refl _)⟩
/-- A small buffer comes back. -/
def BufP (g B : Nat) (A : Option Addr) (len cap : Nat) (w : World) (e : Ending) (w' : World) : Prop :=
  ∃ (b : Bf) (v : Value), e = .returned (bfV b.next v) ∧ smallB b ∧ OwnC w' w.heap.size v b.chs ∧ Draw w' g B A len cap ∧ w.grownBy w' (some g)

set_option maxRecDepth 100000 in
set_option maxHeartbeats 4000000 in
/-- spec.l6Buffer -/
theorem d6buffer (g B : Nat) (A : Option Addr) (len cap : Nat) (w : World) (d : Draw w g B A len cap) :
    Calls Try.prog 46 #[.pointer (some ⟨g, 0, none⟩)] w (BufP g B A len cap w) := by
  have hlt := d.lt
  have W0 : L6W w g B A len cap ⟨0, []⟩ (.slice none 0 0) ((w.alloc (.cells #[.int .i64 0, .slice none 0 0] 26)).alloc (.cells #[.int .i64 0, .slice none 0 0] 26)) := by
    have hs : (w.alloc (.cells #[.int .i64 0, .slice none 0 0] 26)).heap.size = w.heap.size + 1 := by simp
    refine ⟨(BoxB.new w 0 (.slice none 0 0)).alloc _, ?_, OwnC.empty, by simp, (d.alloc _).alloc _, only_alloc (only_alloc (World.grownBy.refl _ _) _) _, hlt⟩
    have h := BoxB.new (w.alloc (.cells #[.int .i64 0, .slice none 0 0] 26)) 0 (.slice none 0 0)
    rwa [hs] at h
  have HW0 := Lib.hid W0
  clear W0 d
  go_enter Try.func46, Try.ntmps46
  go_upto_region 2 with fail
  generalize (w.alloc (.cells #[.int .i64 0, .slice none 0 0] 26)).alloc (.cells #[.int .i64 0, .slice none 0 0] 26) = w0 at *
  go_wp2_with fail
  refine (dbelow 7 (by decide) (by decide) g B A len cap _ HW0.out.2.2.2.2.1).mono ?_
  rintro e w1 ⟨n, rfl, n0, n1, d1, g1⟩
  have HW1 := Lib.hid (HW0.out.drawn g1 d1)
  clear d1 g1 HW0
  obtain ⟨m, rfl⟩ := Int.eq_ofNat_of_zero_le n0
  go_wp2
  go_loopw [4] (fun x wr => ∃ (k : Nat) (b : Bf) (v : Value), x = .int .i64 k ∧ b.chs.length + k ≤ 6 ∧ sumC b.chs + 4 * k ≤ 24 ∧ okB b ∧ L6W w g B A len cap b v wr) (fun x _ => (intOf x).toNat)
  case atStart => exact ⟨m, ⟨0, []⟩, _, rfl, by simp; omega, by simp [sumC]; omega, by unfold okB; simp [okR], HW1.out⟩
  case round =>
    obtain ⟨k, b, v, rfl, hk1, hk2, hok, hw⟩ := hrel
    have HW := Lib.hid hw
    have HOK := Lib.hid hok
    clear hw hok HW1
    by_cases hz : 0 < k
    · obtain ⟨k, rfl⟩ : ∃ j, k = j + 1 := ⟨k - 1, by omega⟩
      go_wp2_with fail
      refine (dbelow 14 (by decide) (by decide) g B A len cap _ HW.out.2.2.2.2.1).mono ?_
      rintro e w2 ⟨o, rfl, o0, o1, d2, g2⟩
      have HW2 := Lib.hid (HW.out.drawn g2 d2)
      clear d2 g2 HW
      obtain ⟨A2, c2, rfl, _, _⟩ := HW2.out.2.2.1.frs
      obtain ⟨q0, q1⟩ := HW2.out.2.1.cells
      have qf := HW2.out.2.1.free
      have HT := Lib.hid (d4data 4 (by decide) g B A len cap _ HW2.out.drew.2.2.2.2.1)
      have hsm : smallB b := okB_small HOK.out (by omega) (by omega)
      have HSI : Hid (∀ (l : List UInt8) W, l.length ≤ 4 → L6W w g B A len cap b (.slice A2 b.chs.length c2) W → Calls Try.prog 16 #[bfV b.next (.slice A2 b.chs.length c2), .int .i64 o, .string ⟨l.toArray⟩] W fun e w' => ∃ v, e = .returned (bfV b.next v) ∧ OwnC w' W.heap.size v (insB b o ⟨l.toArray⟩).chs ∧ Below W.heap.size W w') := Lib.hid fun l W hl h => by
        have hsl : (⟨l.toArray⟩ : ByteArray).size = l.length := by show l.toArray.size = _; simp
        exact sins b o ⟨l.toArray⟩ A2 c2 W.heap.size W (Nat.le_refl _) h.2.2.1.chs2 (by omega) (smallB.inB hsm) hsm.2.2.2 (by omega) (by omega)
      have HSN : Hid (∀ l : List UInt8, l.length ≤ 4 → (insB b o ⟨l.toArray⟩).chs.length + k ≤ 6 ∧ sumC (insB b o ⟨l.toArray⟩).chs + 4 * (k : Int) ≤ 24 ∧ okB (insB b o ⟨l.toArray⟩) ∧ (insB b o ⟨l.toArray⟩).next = b.next) := Lib.hid fun l hl => by
        have hsl : (⟨l.toArray⟩ : ByteArray).size = l.length := by show l.toArray.size = _; simp
        have h1 := insB_len2 b o ⟨l.toArray⟩
        have h2 := insB_sum b o ⟨l.toArray⟩ HOK.out
        exact ⟨by omega, by omega, insB_ok _ _ _ HOK.out, insB_next _ _ _⟩
      clear hsm
      have hn1 : w.heap.size + 1 ≠ g := by omega
      go_upto_region 6 with fail
      go_cut [] (fun wx => ∃ (b' : Bf) (v' : Value), b'.chs.length + k ≤ 6 ∧ sumC b'.chs + 4 * (k : Int) ≤ 24 ∧ okB b' ∧ L6W w g B A len cap b' v' wx)
      case first =>
        go_region_with (first | (go_at_call 50; refine HT.out.mono ?_; rintro e w3 ⟨l, rfl, hl, d3, g3⟩; have HW3 := Lib.hid (HW2.out.drew.drawn g3 d3); obtain ⟨p0, p1⟩ := HW3.out.2.1.cells; clear d3 g3) | (go_at_call 16; refine (HSI.out l w3 hl HW3.out).mono ?_; rintro e w4 ⟨v4, rfl, ho4, hb4⟩; have HW4 := Lib.hid (HW3.out.next hb4); have HO4 := Lib.hid (ownc_weaken ho4 HW3.out.2.2.2.1); obtain ⟨A4, c4, rfl, _, _⟩ := ho4.frs; obtain ⟨r0, r1⟩ := HW4.out.2.1.cells; have rf := HW4.out.2.1.free; clear ho4 hb4))
        all_goals (
          go_wp2
          go_meet
          have hq := HSN.out l hl
          have h := HW4.out.put (b' := insB b o ⟨l.toArray⟩) HO4.out
          rw [hq.2.2.2] at h
          exact ⟨_, _, hq.1, hq.2.1, hq.2.2.1, h⟩)
      case rest =>
        obtain ⟨b5, v5, hk1, hk2, hok, hw⟩ := hcut
        have HW5 := Lib.hid hw
        have HOK5 := Lib.hid hok
        clear hw hok HOK HT HSI HSN HW2 q0 q1 qf
        go_wp2_with fail
        refine (donce 4 (by decide) (by decide) g B A len cap _ HW5.out.2.2.2.2.1).mono ?_
        rintro e w6 ⟨c, rfl, d6, g6⟩
        have HW6 := Lib.hid (HW5.out.drawn g6 d6)
        clear d6 g6 HW5
        cases c with
        | false =>
          go_wp2
          go_roundw
          case rel => exact ⟨k, b5, v5, by go_num, hk1, hk2, HOK5.out, HW6.out⟩
          case measure => simp [intOf]
        | true =>
          obtain ⟨A6, c6, rfl, _, _⟩ := HW6.out.2.2.1.frs
          obtain ⟨q0, q1⟩ := HW6.out.2.1.cells
          have qf := HW6.out.2.1.free
          have HT := Lib.hid (dbelow 4 (by decide) (by decide) g B A len cap _ HW6.out.drew.2.2.2.2.1)
          have hsm : smallB b5 := okB_small HOK5.out (by omega) (by omega)
          have HST : Hid (∀ (x : Int) W, 0 ≤ x → x ≤ 4 → L6W w g B A len cap b5 (.slice A6 b5.chs.length c6) W → Calls Try.prog 36 #[bfV b5.next (.slice A6 b5.chs.length c6), .int .i64 x] W fun e w' => ∃ (s : ByteArray) (b' : Bf) (v : Value), e = .returned (.tuple #[.string s, bfV b'.next v]) ∧ OwnC w' W.heap.size v b'.chs ∧ Below W.heap.size W w' ∧ b'.chs.length + k ≤ 6 ∧ sumC b'.chs + 4 * (k : Int) ≤ 24 ∧ okB b') := Lib.hid fun x W h0 h1 h => by
            refine (stake b5 x A6 c6 W.heap.size W (Nat.le_refl _) h.2.2.1.chs2 (by omega) (smallB.inB hsm) hsm.2.2.2 ⟨by omega, by omega⟩).mono ?_
            rintro e w' ⟨v, rfl, ho, hb⟩
            have h3 := dropT_len2 b5 (cntT b5 x)
            have h4 := dropT_sum b5 (cntT b5 x)
            exact ⟨_, _, v, rfl, ho, hb, by omega, by omega, dropT_ok _ _ HOK5.out⟩
          clear hsm
          go_upto_region 8 with fail
          go_region_with (first | (go_at_call 47; refine HT.out.mono ?_; rintro e w7 ⟨x, rfl, x0, x1, d7, g7⟩; have HW7 := Lib.hid (HW6.out.drew.drawn g7 d7); obtain ⟨p0, p1⟩ := HW7.out.2.1.cells; clear d7 g7) | (go_at_call 36; refine (HST.out x w7 x0 (by omega) HW7.out).mono ?_; rintro e w8 ⟨s8, b8, v8, rfl, ho8, hb8, hk3, hk4, hok8⟩; have HW8 := Lib.hid (HW7.out.next hb8); have HO8 := Lib.hid (ownc_weaken ho8 HW7.out.2.2.2.1); have HOK8 := Lib.hid hok8; obtain ⟨A8, c8, rfl, _, _⟩ := ho8.frs; obtain ⟨r0, r1⟩ := HW8.out.2.1.cells; have rf := HW8.out.2.1.free; clear ho8 hb8 hok8))
          all_goals go_wp2
          all_goals go_roundw
          all_goals first | exact ⟨k, b8, _, by go_num, hk3, hk4, HOK8.out, HW8.out.put HO8.out⟩ | simp [intOf]
    · have hsm : smallB b := okB_small HOK.out (by omega) (by omega)
      have hsm1 := hsm.1
      have HSM := Lib.hid hsm
      have HB6 : Hid (b.chs.length ≤ 6 ∧ sumC b.chs ≤ 24) := Lib.hid ⟨by omega, by omega⟩
      clear hsm hk1 hk2 HOK
      go_wp2_with fail
      refine (dbelow 16 (by decide) (by decide) g B A len cap _ HW.out.2.2.2.2.1).mono ?_
      rintro e w2 ⟨x, rfl, x0, x1, d2, g2⟩
      have HW2 := Lib.hid (HW.out.drawn g2 d2)
      clear d2 g2 HW
      by_cases hx0 : x = 0
      · subst hx0
        have HR := Lib.hid (row_four (-1) 30 4611686018427387903 4611686018427387904 w2 (by decide) (by decide) (by decide) (by decide))
        have HWA := Lib.hid (HW2.out.next ((Below.refl _ _).alloc (Nat.le_refl _) (.cells #[.int .i64 (-1), .int .i64 30, .int .i64 4611686018427387903, .int .i64 4611686018427387904] 3)))
        have hgl : g < w2.heap.size := HW2.out.2.2.2.2.1.lt
        go_wp2_with fail
        refine (dpick w2.heap.size 4 (by decide) (by decide) g B A len cap _ HWA.out.2.2.2.2.1 (by omega) (by simp) HR.out).mono ?_
        rintro e w3 ⟨y, rfl, y0, y1, d3, g3⟩
        have HW3 := Lib.hid (HWA.out.drawn g3 d3)
        clear d3 g3 HWA HR HW2
        obtain ⟨A2, c2, rfl, _, _⟩ := HW3.out.2.2.1.frs
        obtain ⟨q0, q1⟩ := HW3.out.1.cells
        have qf := HW3.out.1.free
        obtain ⟨p0, p1⟩ := HW3.out.2.1.cells
        have pf := HW3.out.2.1.free
        have HW4 := Lib.hid (HW3.out.setN y)
        go_upto_region 14 with fail
        generalize w3.setCell ⟨w.heap.size + 1, 0, none⟩ (.int .i64 y) = w4 at *
        clear p0 p1 pf q0 q1 qf HW3
        obtain ⟨q0, q1⟩ := HW4.out.1.cells
        have qf := HW4.out.1.free
        obtain ⟨p0, p1⟩ := HW4.out.2.1.cells
        go_wp2
        refine bodyPost_ret (results_cell_row rfl _ _ w.heap.size _ _ _ _ rfl ((HW4.out.1.set0 y).set1 _) Try.underlying26 rfl (by kernel_rfl)) rfl ?_
        exact ⟨⟨y, b.chs⟩, _, rfl, ⟨HSM.out.1, HSM.out.2.1, HSM.out.2.2.1, y0, y1⟩, HW4.out.fin y _, (HW4.out.fin2 y _).1, (HW4.out.fin2 y _).2⟩
      · have hd0 : (x == 0) = false := by simpa using hx0
        clear hx0
        by_cases hx1 : x = 1
        · subst hx1
          obtain ⟨A2, c2, rfl, _, _⟩ := HW2.out.2.2.1.frs
          obtain ⟨p0, p1⟩ := HW2.out.2.1.cells
          have HT1 := Lib.hid (dbelow 20 (by decide) (by decide) g B A len cap _ HW2.out.drew.2.2.2.2.1)
          have hn1 : w.heap.size + 1 ≠ g := by omega
          have hlc : b.chs.length + 1 ≤ 100000000000 := by omega
          have hap : ∀ (y : Int) (s : ByteArray), (b.chs ++ [(⟨y, s⟩ : Ch)]).length = b.chs.length + 1 := fun _ _ => by simp
          have HAP := Lib.hid hap
          clear hap
          go_upto_region 13 with fail
          go_region_law (first | (go_simp; go_at_call 47; ((with_reducible refine HT1.out.mono ?_); rintro e w3 ⟨y, rfl, y0, y1, d3, g3⟩; have HW3 := Lib.hid (HW2.out.drew.drawn g3 d3); obtain ⟨r0, r1⟩ := HW3.out.2.1.cells; have HT2 := Lib.hid (d4data 3 (by decide) g B A len cap w3 HW3.out.2.2.2.2.1); clear d3 g3)) | (go_simp; go_at_call 50; (refine HT2.out.mono ?_; rintro e w4 ⟨l, rfl, hl, d4, g4⟩; have HW4 := Lib.hid (HW3.out.drawn g4 d4); obtain ⟨s0, s1⟩ := HW4.out.2.1.cells; have hle4 := HW4.out.2.2.2.1; have hlt4 := HW4.out.2.1.lt; clear d4 g4)) | (refine step_append_ch _ rfl (.tmp 40) (.tmp 46) rfl (w.heap.size + 2) _ b.chs rfl (OwnC.alloc (w := w4) HW4.out.2.2.1 _) w4.heap.size 0 1 1 _ [⟨y, ⟨l.toArray⟩⟩] rfl rfl (chs_one w4 ⟨y, ⟨l.toArray⟩⟩ _) hlc (by simp; omega) ?_; intro v' w' hown' hbel; obtain ⟨A5, c5, rfl, _, _⟩ := hown'.frs; rw [HAP.out] at hown'; have HW5 := Lib.hid (HW4.out.app (b' := ⟨b.next, b.chs ++ [⟨y, ⟨l.toArray⟩⟩]⟩) hbel hown' rfl); obtain ⟨t0, t1⟩ := HW5.out.1.cells; have tf := HW5.out.1.free; clear hown' hbel))
          all_goals (
            have HW6 := Lib.hid HW5.out.2
            have HS6 := Lib.hid (smallB_app (b := b) HSM.out HB6.out (y := y) (by omega) (by omega) hl)
            generalize w'.setCell ⟨w.heap.size + 1, 1, none⟩ (.slice A5 (b.chs.length + 1) c5) = w6 at *
            clear HW5 HW4 HW3 HT1 HT2 HAP HSM HB6 HW2 r0 r1 s0 s1 t0 t1 tf p0 p1 hle4 hlt4
            obtain ⟨q0, q1⟩ := HW6.out.1.cells
            have qf := HW6.out.1.free
            obtain ⟨p0, p1⟩ := HW6.out.2.1.cells
            go_wp2
            refine bodyPost_ret (results_cell_row rfl _ _ w.heap.size _ _ _ _ rfl ((HW6.out.1.set0 b.next).set1 _) Try.underlying26 rfl (by kernel_rfl)) rfl ?_
            exact ⟨⟨b.next, b.chs ++ [⟨y, ⟨l.toArray⟩⟩]⟩, _, rfl, HS6.out, HW6.out.fin b.next _, (HW6.out.fin2 b.next _).1, (HW6.out.fin2 b.next _).2⟩)
        · have hd1 : (x == 1) = false := by simpa using hx1
          clear hx1
          obtain ⟨A2, c2, rfl, _, _⟩ := HW2.out.2.2.1.frs
          obtain ⟨q0, q1⟩ := HW2.out.1.cells
          have qf := HW2.out.1.free
          obtain ⟨p0, p1⟩ := HW2.out.2.1.cells
          go_wp2
          refine bodyPost_ret (results_cell_row rfl _ _ w.heap.size _ _ _ _ rfl ((HW2.out.1.set0 b.next).set1 _) Try.underlying26 rfl (by kernel_rfl)) rfl ?_
          exact ⟨b, _, rfl, HSM.out, HW2.out.fin b.next _, (HW2.out.fin2 b.next _).1, (HW2.out.fin2 b.next _).2⟩
end Go.Proofs.Ytmaaldmakgjplaa
