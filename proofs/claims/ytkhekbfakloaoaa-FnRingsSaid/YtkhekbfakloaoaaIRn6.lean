/-
  What the store's read returns.
-/
import Derived.Test.YtkhekbfakloaoaaIRn5
namespace Go.Proofs.Ytkhekbfakloaoaa
open Go.RowKit Go.Deep Go.Proofs.Ytkhekbfakloaoaa.Num Go.MuLone

/-- Block g holds these bytes. -/
def RowG (w : World) (g : Nat) (l : List UInt8) : Prop := w.heap[g]? = some (.cells (cellsB l) 5 (0, 0))
theorem RowG.lt {w : World} {g : Nat} {l : List UInt8} (h : RowG w g l) : g < w.heap.size := (Array.getElem?_eq_some_iff.1 h).1
theorem RowG.below {w w' : World} {g K : Nat} {l : List UInt8} (h : RowG w g l) (hb : Below K w w') (hg : g < K) : RowG w' g l := (hb.block g hg).trans h
theorem RowG.cell {w : World} {g : Nat} {l : List UInt8} (h : RowG w g l) (j : Nat) : w.cell? ⟨g, j, none⟩ = (cellsB l)[j]? := cell_of_row w g j _ _ _ h
theorem RowG.free {w : World} {g : Nat} {l : List UInt8} (h : RowG w g l) (k : Nat) : w.frozen? ⟨g, k, none⟩ = false := by
  unfold RowG at h
  simp [World.frozen?, h]
theorem RowG.set {w : World} {g : Nat} {l : List UInt8} (h : RowG w g l) (j : Nat) (m : Nat) (hm : m < 256) : RowG (w.setCell ⟨g, j, none⟩ (.int .u8 (m : Int))) g (l.set j (UInt8.ofNat m)) := by
  unfold RowG at h ⊢
  have e : cellsB (l.set j (UInt8.ofNat m)) = (cellsB l).setIfInBounds j (.int .u8 (m : Int)) := by
    unfold cellsB
    rw [List.map_set, List.setIfInBounds_toArray]
    congr 3
    have : (UInt8.ofNat m).toNat = m := by simp; omega
    rw [this]
  rw [e]
  simp [World.setCell, Array.getElem?_modify, h]
/-- A block that was made since is written. -/
theorem grown_new {a b : World} {g g2 : Nat} (h : a.grownBy b (some g)) (h2 : a.heap.size ≤ g2) (k : Nat) (u : Value) : a.grownBy (b.setCell ⟨g2, k, none⟩ u) (some g) :=
  ⟨h.os, h.tape, h.output, by simpa [World.setCell] using h.size, fun i hi hne => (Below.heap_setCell b ⟨g2, k, none⟩ u i (by show i ≠ g2; omega)).trans (h.block i hi hne)⟩
/-- What stands in the bytes that are filled, when j of n are. -/
def filR (sz o : Int) (l : List Int) (n j : Nat) : List UInt8 := peekL sz o l j ++ List.replicate (n - j) 0
theorem filR_len (sz o : Int) (l : List Int) (n j : Nat) (h : j ≤ n) : (filR sz o l n j).length = n := by
  unfold filR
  rw [List.length_append, peekL_len, List.length_replicate]; omega
theorem filR_step (sz o : Int) (l : List Int) (n j : Nat) (h : j < n) : (filR sz o l n j).set j (UInt8.ofNat (l.getD (atR sz (o + j)) 0).toNat) = filR sz o l n (j + 1) := by
  unfold filR
  have e : List.replicate (n - j) (0 : UInt8) = 0 :: List.replicate (n - (j + 1)) 0 := by
    rw [← List.replicate_succ]
    congr 1; omega
  rw [e, List.set_append_right _ _ (by rw [peekL_len]; exact Nat.le_refl _), peekL_len, Nat.sub_self]
  show peekL sz o l j ++ UInt8.ofNat _ :: _ = (peekL sz o l j ++ [_]) ++ _
  rw [List.append_assoc]
  rfl

set_option maxRecDepth 100000 in
set_option maxHeartbeats 1000000 in
/-- (*impl.cellStore).read -/
theorem iread (g : Nat) (sz o : Int) (n : Nat) (l : List Int) (w : World) (x : StM w g 0 sz l) (h1 : 1 ≤ sz) (h2 : sz ≤ 64) (ho : 0 ≤ o) (hn : o + (n : Int) ≤ 4611686018427387903) (hn64 : n ≤ 64) (hby : ∀ z ∈ l, 0 ≤ z ∧ z ≤ 255) :
    Calls Try.prog 50 #[.pointer (some ⟨g, 0, none⟩), .int .i64 o, .int .i64 (n : Int)] w fun e w' => e = .returned (.string ⟨(peekL sz o l n).toArray⟩) ∧ w.grownBy w' (some g) := by
  have H1 := Lib.hid (x.lock 1)
  have HG := Lib.hid (only_setI w g 0 (.int .i32 1))
  have c0 := x.c0
  have f0 := x.free 0
  have hl64 := x.2
  have hgw := x.lt
  have hmk := make_row n (by omega)
  have HBY := Lib.hid hby
  have hz0 : (w.setCell ⟨g, 0, none⟩ (.int .i32 1)).heap.size = w.heap.size := by simp [World.setCell]
  clear x hby
  go_enter_defers Try.func50, Try.ntmps50
  go_wp2_with (go_at_call 64; refine (lock_free muLib ⟨g, 0, none⟩ _ c0 f0).mono ?_; rintro e w' ⟨rfl, rfl⟩)
  clear c0 f0 hmk
  have HS0 : Hid (StM ((w.setCell ⟨g, 0, none⟩ (.int .i32 1)).alloc (.cells (cellsB (List.replicate n 0)) 5)) g 1 sz l) := Lib.hid (H1.out.below ((Below.refl _ _).alloc (Nat.le_refl _) _) H1.out.lt)
  have HR0 : Hid (RowG ((w.setCell ⟨g, 0, none⟩ (.int .i32 1)).alloc (.cells (cellsB (List.replicate n 0)) 5)) w.heap.size (filR sz o l n 0)) := Lib.hid (by
    have h := heap_alloc_new (w.setCell ⟨g, 0, none⟩ (.int .i32 1)) (.cells (cellsB (List.replicate n 0)) 5)
    rw [hz0] at h
    exact h)
  have HG0 : Hid (w.grownBy ((w.setCell ⟨g, 0, none⟩ (.int .i32 1)).alloc (.cells (cellsB (List.replicate n 0)) 5)) (some g)) := Lib.hid (grown_more HG.out ((Below.refl _ _).alloc (Nat.le_refl _) _))
  clear H1 HG hz0
  generalize (w.setCell ⟨g, 0, none⟩ (.int .i32 1)).alloc (.cells (cellsB (List.replicate n 0)) 5) = w1 at *
  go_loopw [20] (fun i wr => ∃ j : Nat, j ≤ n ∧ i = .int .i64 j ∧ StM wr g 1 sz l ∧ RowG wr w.heap.size (filR sz o l n j) ∧ w.grownBy wr (some g)) (fun i _ => n - (intOf i).toNat)
  case atStart => exact ⟨0, Nat.zero_le _, rfl, HS0.out, HR0.out, HG0.out⟩
  case round =>
    obtain ⟨j, hj, rfl, hst, hrw, hgr⟩ := hrel
    have HS := Lib.hid hst
    have HW := Lib.hid hrw
    have HR := Lib.hid hgr
    clear hst hrw hgr HS0 HR0 HG0
    by_cases hlt : j < n
    · have HCO := Lib.hid (icellof g 1 sz (o + (j : Int)) _ wr HS.out h1 h2 (by omega))
      have hsum : IntKind.i64.wrap (o + (j : Int)) = o + (j : Int) := by rw [IntKind.wrap_i64]; omega
      have hat := atR_lt h1 (o + (j : Int))
      have hkl : atR sz (o + (j : Int)) < l.length := by omega
      have HF : Hid ((filR sz o l n j).set j (UInt8.ofNat (l.getD (atR sz (o + j)) 0).toNat) = filR sz o l n (j + 1)) := Lib.hid (filR_step sz o l n j hlt)
      rw [List.getD_eq_getElem?_getD, List.getElem?_eq_getElem hkl, Option.getD_some] at HF
      have hz := HBY.out _ (List.getElem_mem hkl)
      have HAT : Hid (∀ W, StM W g 1 sz l → W.cell? ⟨g, 3 + atR sz (o + (j : Int)), none⟩ = some (.int .i64 l[atR sz (o + (j : Int))])) := Lib.hid fun W h => h.at _ hkl
      generalize l[atR sz (o + (j : Int))] = z at *
      obtain ⟨m, rfl⟩ := Int.eq_ofNat_of_zero_le hz.1
      rw [Int.toNat_natCast] at HF
      have hcv : IntKind.u8.wrap (m : Int) = (m : Int) := by rw [IntKind.wrap_u8']; omega
      have hm : m < 256 := by omega
      generalize atR sz (o + (j : Int)) = k at *
      have hj0 : (0 : Int) ≤ (j : Int) := by omega
      have hj1 : (j : Int) < (n : Int) := by omega
      clear hat hkl hz
      go_wp2_with fail
      refine HCO.out.mono ?_
      rintro e w2 ⟨rfl, hb2⟩
      have HS2 := Lib.hid (HS.out.below hb2 HS.out.lt)
      have HW2 := Lib.hid (HW.out.below hb2 HW.out.lt)
      have HR2 := Lib.hid (grown_more HR.out hb2)
      have hc := HAT.out w2 HS2.out
      obtain ⟨y, hy⟩ : ∃ y, w2.cell? ⟨w.heap.size, j, none⟩ = some y := ⟨_, (HW2.out.cell j).trans (Array.getElem?_eq_getElem (by rw [cellsB_size, filR_len _ _ _ _ _ hj]; exact hlt))⟩
      have hfz := HW2.out.free j
      have HW3 := Lib.hid (HW2.out.set j m hm)
      rw [HF.out] at HW3
      have HS3 : Hid (StM (w2.setCell ⟨w.heap.size, j, none⟩ (.int .u8 (m : Int))) g 1 sz l) := Lib.hid ⟨(Below.heap_setCell w2 ⟨w.heap.size, j, none⟩ (.int .u8 (m : Int)) g (by show g ≠ w.heap.size; omega)).trans HS2.out.1, HS2.out.2⟩
      have HR3 := Lib.hid (grown_new HR2.out (Nat.le_refl _) j (.int .u8 (m : Int)))
      clear hb2
      go_wp2
      go_roundw
      case rel => exact ⟨j + 1, hlt, by go_num, HS3.out, HW3.out, HR3.out⟩
      case measure => simp [intOf]; omega
    · obtain rfl : j = n := by omega
      have e0 : filR sz o l j j = peekL sz o l j := by unfold filR; rw [Nat.sub_self]; simp
      rw [e0] at HW
      have hpl := peekL_len sz o l j
      have hcvt := conv_row wr w.heap.size (peekL sz o l j) j (fun q _ => HW.out.cell q)
      rw [hpl] at hcvt
      have HS3 := Lib.hid (HS.out.lock 0)
      have HR3 := Lib.hid (only_moreI HR.out 0 (.int .i32 0))
      go_wp2
      refine leaves_cons (f := 65) (args := #[.pointer (some ⟨g, 0, none⟩)]) (by simp) (by simp [go_sem]) ?_
      refine (unlock_deferred muLib ⟨g, 0, none⟩ .returning _ HS.out.c0 (HS.out.free 0)).mono ?_
      rintro e u' w'' ⟨rfl, rfl, rfl⟩
      exact ⟨_, results_tmp rfl _ _ _, rfl, HR3.out⟩
end Go.Proofs.Ytkhekbfakloaoaa
