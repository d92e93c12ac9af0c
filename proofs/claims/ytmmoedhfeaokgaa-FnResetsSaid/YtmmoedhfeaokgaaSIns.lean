/-
  What spec.InsertData returns.
  What spec.InsertData returns, whatever it is given.
-/
import Derived.Test.YtmmoedhfeaokgaaSBRng
import Derived.Test.YtmmoedhfeaokgaaSBuf2
import Derived.Test.YtmmoedhfeaokgaaSRng6
import Derived.Test.YtmmoedhfeaokgaaSByte
import Derived.Test.YtmmoedhfeaokgaaBufN
import Derived.BigRegion
namespace Go.Proofs.Ytmmoedhfeaokgaa
open Go.RowKit Go.Deep Go.Proofs.Ytmmoedhfeaokgaa.Num

/-- What the walk of InsertData holds: the box of the buffer, the result's block, the new buffer's block, the ranges, the chunks that were made. -/
def InsW (w : World) (nx : Int) (sl : Value) (g base : Nat) (AL : Option Addr) (L : List Rg) (u : Value) (acc : List Ch) (W : World) : Prop :=
  HeldB w nx sl W ∧ BoxB W (w.heap.size + 1) 0 (.slice none 0 0) ∧ BoxB W g nx u ∧ (Rgs W base AL L ∧ ∀ a, AL = some a → a.block ≠ g) ∧ OwnC W base u acc ∧ base ≤ W.heap.size ∧ w.heap.size + 1 < g ∧ g < base
theorem InsW.next {w : World} {nx : Int} {sl : Value} {g base : Nat} {AL : Option Addr} {L : List Rg} {u : Value} {acc : List Ch} {W W' : World} (h : InsW w nx sl g base AL L u acc W) (hb : Below W.heap.size W W') : InsW w nx sl g base AL L u acc W' := by
  obtain ⟨h1, h2, h3, h4, h5, h6, h7, h8⟩ := h
  exact ⟨h1.next hb, h2.below hb h2.lt, h3.below hb h3.lt, ⟨h4.1.below h6 hb, h4.2⟩, h5.later hb, Nat.le_trans h6 hb.size, h7, h8⟩
theorem Rgs.other {w : World} {B : Nat} {A : Option Addr} {l : List Rg} (h : Rgs w B A l) (g k : Nat) (u : Value) (hg : ∀ a, A = some a → a.block ≠ g) : Rgs (w.setCell ⟨g, k, none⟩ u) B A l := by
  intro j hj
  obtain ⟨b, off, hA, hlt, h1, h2⟩ := h j hj
  have hne : b ≠ g := hg _ hA
  have e : (w.setCell ⟨g, k, none⟩ u).heap[b]? = w.heap[b]? := Below.heap_setCell w ⟨g, k, none⟩ u b hne
  exact ⟨b, off, hA, hlt, (World.cell?_of_block (w := w) e).trans h1, (World.cell?_of_block (w := w) e).trans h2⟩
theorem InsW.put {w : World} {nx : Int} {sl : Value} {g base : Nat} {AL : Option Addr} {L : List Rg} {u u' : Value} {acc acc' : List Ch} {W W' : World} (h : InsW w nx sl g base AL L u acc W) (hb : Below base W W') (ho : OwnC W' base u' acc') : InsW w nx sl g base AL L u' acc' (W'.setCell ⟨g, 1, none⟩ u') := by
  obtain ⟨h1, h2, h3, h4, h5, h6, h7, h8⟩ := h
  have k1 : HeldB w nx sl W' := h1.more (hb.mono (by omega))
  refine ⟨⟨k1.1.other g 1 _ (by omega), k1.2.setCell (p := ⟨_, _, _⟩) (by show w.heap.size ≤ g; omega) _⟩, (h2.below hb (by omega)).other g 1 _ (by omega), (h3.below hb h8).set1 u', ⟨(h4.1.below (Nat.le_refl _) hb).other g 1 _ h4.2, h4.2⟩, ho.put g 1 _ h8, ?_, h7, h8⟩
  simp [World.setCell]
  exact Nat.le_trans h6 hb.size
theorem ownr_block {w : World} {base : Nat} {A : Option Addr} {n cap : Nat} {l : List Rg} (h : OwnR w base (.slice A n cap) l) : ∀ a, A = some a → base ≤ a.block := by
  rintro a rfl
  exact (World.ownsRow.lt h a.block rfl).1

theorem byte_mod (x : UInt8) (m : Nat) (h : (m : Int) = ((x.toNat : Nat) : Int)) : wrap64 ((x.toNat : Nat) : Int) % 256 = (m : Int) := by
  have := x.toNat_lt
  rw [h]
  unfold wrap64
  omega

set_option maxRecDepth 100000 in
set_option maxHeartbeats 2000000 in
/-- spec.InsertData, of data that goes in. -/
theorem sins_yes (b : Bf) (o : Int) (d : ByteArray) (A : Option Addr) (cap B : Nat) (w : World) (hB : B ≤ w.heap.size) (hr : Chs w B A b.chs) (hn : b.chs.length ≤ 10000000) (hi : inB b.chs) (hnx : -9223372036854775808 ≤ b.next ∧ b.next ≤ 9223372036854775807) (hd : sumC b.chs + d.size ≤ 8000000) (hc : canI b o d) :
    Calls Try.prog 63 #[bfV b.next (.slice A b.chs.length cap), .int .i64 o, .string d] w fun e w' => ∃ v, e = .returned (bfV b.next v) ∧ OwnC w' w.heap.size v (insB b o d).chs ∧ Below w.heap.size w w' := by
  have HR := Lib.hid hr
  have HIS : Hid (∀ W, B ≤ W.heap.size → Chs W B A b.chs → Calls Try.prog 50 #[bfV b.next (.slice A b.chs.length cap)] W fun e w' => e = .returned (.bool true) ∧ Below W.heap.size W w') := Lib.hid fun W h1 h2 => by
    have h := sisb b A cap B W h1 h2 (by omega) hi hnx
    rw [decide_eq_true hc.1] at h
    exact h
  have HBR : Hid (∀ W, B ≤ W.heap.size → Chs W B A b.chs → Calls Try.prog 84 #[bfV b.next (.slice A b.chs.length cap)] W fun e w' => ∃ v, e = .returned v ∧ OwnR w' W.heap.size v (b.chs.map ckR) ∧ Below W.heap.size W w') := Lib.hid fun W h1 h2 => by
    have h := sbrng b A cap B W h1 h2 (by omega) hi hnx
    rw [show rgsB b = b.chs.map ckR from if_pos hc.1] at h
    exact h
  have HAT : Hid (∀ (n : Int) W, -9223372036854775808 ≤ n ∧ n ≤ 9223372036854775807 → B ≤ W.heap.size → Chs W B A b.chs → Calls Try.prog 85 #[bfV b.next (.slice A b.chs.length cap), .int .i64 n] W fun e w' => e = .returned (.int .i64 (byteB b.chs n)) ∧ Below W.heap.size W w') := Lib.hid fun n W h0 h1 h2 => sbyteat b.next b.chs n A cap B W h1 h2 (by omega) hi h0
  have HAR : Hid (∀ (AL : Option Addr) (c : Nat) W, Rgs W W.heap.size AL (b.chs.map ckR) → Calls Try.prog 83 #[.slice AL b.chs.length c, .agg #[.int .i64 (max o b.next), .int .i64 (o + d.size)]] W fun e w' => ∃ v, e = .returned v ∧ OwnR w' W.heap.size v (addR (max o b.next, o + d.size) (b.chs.map ckR)) ∧ Below W.heap.size W w') := Lib.hid fun AL c W h => by
    have h2 := sadd (b.chs.map ckR) (max o b.next, o + d.size) AL c W.heap.size W (Nat.le_refl _) h (by simp; omega)
    have hk : okR (-1) (b.chs.map ckR) := okR.weaker hc.1.1 (by have := hc.1.2; omega)
    have hf : fineR (max o b.next, o + (d.size : Int)) := ⟨by show 0 ≤ max o b.next; have := hc.1.2; omega, by show max o b.next < o + d.size; have := hc.2.1; have := hc.2.2.2.2; omega, by show o + (d.size : Int) ≤ _; have := hc.2.2.2.1; omega⟩
    rw [if_pos ⟨hk, hf⟩, List.length_map] at h2
    exact h2
  have HL : Hid (∀ r ∈ addR (max o b.next, o + d.size) (b.chs.map ckR), (0 ≤ r.1 ∧ r.1 < r.2 ∧ r.2 ≤ 4611686018427387903 ∧ r.2 - r.1 ≤ 8000000) ∧ ∀ n, r.1 ≤ n → n < r.2 → byteB b.chs n < 0 → 0 ≤ n - o ∧ n - o < d.size) := Lib.hid fun r hr => ⟨by have := ins_small hc hr; omega, fun n h0 h1 h2 => ins_place hc hr h0 h1 h2⟩
  have HLL := Lib.hid (addR_len (b.chs.map ckR) (max o b.next, o + d.size))
  have HV : Hid ((insB b o d).chs = (addR (max o b.next, o + d.size) (b.chs.map ckR)).map (fillC (newB b.chs o d))) := Lib.hid (by unfold insB; rw [if_pos hc])
  have HF : Hid (∀ n, newB b.chs o d n = if 0 ≤ byteB b.chs n then byteB b.chs n else bytD d (n - o).toNat) := Lib.hid fun n => rfl
  have HF2 := Lib.hid (newB_in b.chs o d)
  have hc1 := hc.2.1
  have hc2 := hc.2.2.1
  have hc3 := hc.2.2.2.1
  have hc4 := hc.2.2.2.2
  have hc5 := hc.1.2.1
  have hmap : (b.chs.map ckR).length = b.chs.length := by simp
  obtain ⟨nx, l⟩ := b
  dsimp only at *
  generalize addR (max o nx, o + (d.size : Int)) (l.map ckR) = L at *
  generalize newB l o d = f at *
  generalize (insB ⟨nx, l⟩ o d).chs = out at *
  clear hc hi hr
  obtain ⟨low, hlo⟩ : ∃ low : Int, max o nx = low := ⟨_, rfl⟩
  have hmax : (if o < nx then nx else o) = low := by rw [← hlo]; split <;> omega
  rw [hlo] at HAR
  have hl1 : low < o + (d.size : Int) := by omega
  have hl2 : 0 ≤ low := by omega
  have hemp := data_empty d
  rw [decide_eq_false hc1] at hemp
  have hd3 : decide (4611686018427387903 - (d.size : Int) < o) = false := decide_eq_false (by omega)
  have H2 := Lib.hid ((HeldB.start w nx (.slice A l.length cap)).alloc (.cells #[.int .i64 0, .slice none 0 0] 26))
  have X2 := BoxB.new (w.alloc (.cells #[.int .i64 nx, .slice A l.length cap] 26)) 0 (.slice none 0 0)
  rw [show (w.alloc (.cells #[.int .i64 nx, .slice A l.length cap] 26)).heap.size = w.heap.size + 1 by simp] at X2
  have HX2 := Lib.hid X2
  have HS2 := Lib.hid (show ((w.alloc (.cells #[.int .i64 nx, .slice A l.length cap] 26)).alloc (.cells #[.int .i64 0, .slice none 0 0] 26)).heap.size = w.heap.size + 1 + 1 by simp)
  have HLO := Lib.hid hlo
  clear X2 hlo hmap
  go_enter Try.func63, Try.ntmps63
  go_upto_region 1 with fail
  generalize (w.alloc (.cells #[.int .i64 nx, .slice A l.length cap] 26)).alloc (.cells #[.int .i64 0, .slice none 0 0] 26) = w2 at *
  obtain ⟨q0, q1⟩ := H2.out.1.cells
  go_wp2_with fail
  refine (HIS.out w2 (Nat.le_trans hB H2.out.2.size) (HR.out.below hB H2.out.2)).mono ?_
  rintro e w3 ⟨rfl, hb3⟩
  have H3 := Lib.hid (H2.out.next hb3)
  have HX3 := Lib.hid (HX2.out.below hb3 HX2.out.lt)
  have hs3 : w.heap.size + 1 + 1 ≤ w3.heap.size := by have := HS2.out; have := hb3.size; omega
  clear hb3 q0 q1 H2 HX2 HS2 HIS
  obtain ⟨q0, q1⟩ := H3.out.1.cells
  have H4 := Lib.hid (H3.out.alloc (.cells #[.int .i64 nx, .slice none 0 0] 26))
  have HX4 := Lib.hid (HX3.out.alloc (.cells #[.int .i64 nx, .slice none 0 0] 26))
  have HY4 := Lib.hid (BoxB.new w3 nx (.slice none 0 0))
  go_upto_region 8 with fail
  generalize hg : w3.heap.size = g at *
  generalize w3.alloc (.cells #[.int .i64 nx, .slice none 0 0] 26) = w4 at *
  clear hg hmax hemp hd3 q0 q1
  obtain ⟨q0, q1⟩ := H4.out.1.cells
  go_wp2_with fail
  have hH4 := H4.out.2
  ((with_reducible refine (HBR.out w4 (Nat.le_trans hB hH4.size) (HR.out.below hB hH4)).mono ?_))
  clear hH4
  rintro e w5 ⟨v5, rfl, ho5, hb5⟩
  have hb5g := HY4.out.lt
  have H5 := Lib.hid (H4.out.next hb5)
  have HX5 := Lib.hid (HX4.out.below hb5 HX4.out.lt)
  have HY5 := Lib.hid (HY4.out.below hb5 hb5g)
  have hb5s := hb5.size
  obtain ⟨A5, c5, rfl, _, hr5⟩ := ho5.rgs
  have HR5 := Lib.hid hr5
  clear ho5 hb5 hr5 q0 q1 H4 HX4 HY4 HBR H3 HX3
  go_wp2_with fail
  ((with_reducible refine (HAR.out A5 c5 w5 HR5.out).mono ?_))
  rintro e w6 ⟨v6, rfl, ho6, hb6⟩
  have H6 := H5.out.next hb6
  have HX6 := HX5.out.below hb6 HX5.out.lt
  have HY6 := HY5.out.below hb6 HY5.out.lt
  obtain ⟨A6, c6, rfl, _, hr6⟩ := ho6.rgs
  have hbk := ownr_block ho6
  have HW6 : Hid (InsW w nx (.slice A l.length cap) g w6.heap.size A6 L (.slice none 0 0) [] w6) := Lib.hid ⟨H6, HX6, HY6, ⟨hr6, fun a ha => by have := hbk a ha; omega⟩, OwnC.empty, Nat.le_refl _, by omega, by have := hb6.size; omega⟩
  clear H6 HX6 HY6 hbk hr6 ho6 hb6 H5 HX5 HY5 HR5 HAR
  have hLl : L.length ≤ 10000001 := by have h := HLL.out; rw [List.length_map] at h; omega
  have hB6 : B ≤ w6.heap.size := by
    have h := HW6.out.1.2.size
    omega
  clear HLL hs3 hb5g hb5s hl1 hl2 HLO hc1 hc4
  go_wp2
  go_loopw [11, 12, 13, 14] (fun i _ _ _ wr => ∃ (j : Nat) (u : Value), j ≤ L.length ∧ i = .int .i64 j ∧ InsW w nx (.slice A l.length cap) g w6.heap.size A6 L u ((L.take j).map (fillC f)) wr) (fun i _ _ _ _ => L.length - (intOf i).toNat)
  case atStart => exact ⟨0, _, Nat.zero_le _, rfl, HW6.out⟩
  case round =>
    obtain ⟨j, u, hj, rfl, hw⟩ := hrel
    have HW := Lib.hid hw
    clear hw HW6
    by_cases hlt : j < L.length
    · obtain ⟨bL, oL, rfl, hbL, c0, c1⟩ := HW.out.2.2.2.1.1 j hlt
      have HT : Hid ((L.take (j + 1)).map (fillC f) = (L.take j).map (fillC f) ++ [fillC f L[j]]) := Lib.hid (by rw [List.take_succ_eq_append_getElem hlt, List.map_append]; rfl)
      have hin := HL.out L[j] (List.getElem_mem hlt)
      have HPL := Lib.hid hin.2
      have hr0 := hin.1.1
      have hr1 := hin.1.2.1
      have hr2 := hin.1.2.2.1
      have hr3 := hin.1.2.2.2
      have HRC : Hid (∀ W, Rgs W w6.heap.size (some ⟨bL, oL, none⟩) L → W.cell? ⟨bL, oL + j * 2, none⟩ = some (.int .i64 L[j].1) ∧ W.cell? ⟨bL, oL + j * 2 + 1, none⟩ = some (.int .i64 L[j].2)) := Lib.hid fun W h => by
        obtain ⟨b', o', e, _, h1, h2⟩ := h j hlt
        injection e with e
        injection e with e1 e2 _
        subst e1
        subst e2
        exact ⟨h1, h2⟩
      generalize L[j] = r at *
      obtain ⟨r1, r2⟩ := r
      dsimp only at *
      clear hin
      go_wp2
      clear c0 c1
      obtain ⟨wo, rfl⟩ : ∃ wo : World, wo = wr := ⟨_, rfl⟩
      go_loopw [12, 13, 14] (fun s a _ wi => ∃ (k : Nat), r1 + (k : Int) ≤ r2 ∧ a = .int .i64 (r1 + (k : Int)) ∧ s = .string ⟨(fillL f r1 k).toArray⟩ ∧ InsW w nx (.slice A l.length cap) g w6.heap.size (some ⟨bL, oL, none⟩) L u ((L.take j).map (fillC f)) wi) (fun _ a _ _ => (r2 - intOf a).toNat)
      case atStart => exact ⟨0, by simp; omega, by simp, rfl, HW.out⟩
      case round =>
        obtain ⟨k, hk, rfl, rfl, hwi⟩ := hrel
        have HI := Lib.hid hwi
        clear hwi HW
        have HM := HI.out.2.2.2.1.1
        obtain ⟨c0, c1⟩ := HRC.out wr HM
        clear HM
        by_cases hkr : r1 + (k : Int) < r2
        · have hk8 : k ≤ 8000000 := by omega
          have hdk : decide (r1 + (k : Int) < r2) = true := decide_eq_true hkr
          have HP1 := Lib.hid (HPL.out (r1 + (k : Int)) (by omega) hkr)
          have HF1 := Lib.hid (HF.out (r1 + (k : Int)))
          have HF3 := Lib.hid (HF2.out (r1 + (k : Int)))
          have HS := Lib.hid (fillL_succ f r1 k)
          have hlen := fillL_len f r1 k
          have hat1 : r1 + (k : Int) + 1 ≤ r2 := by omega
          have hat2 : r1 + (((k + 1 : Nat)) : Int) = r1 + (k : Int) + 1 := by omega
          have HAT2 := Lib.hid hat2
          obtain ⟨q0, q1⟩ := HI.out.1.1.cells
          have HCA := Lib.hid (HAT.out (r1 + (k : Int)) wr (by omega) (Nat.le_trans hB6 HI.out.2.2.2.2.2.1) (HR.out.below hB HI.out.1.2))
          generalize hz : byteB l (r1 + (k : Int)) = z at *
          generalize hfy : f (r1 + (k : Int)) = y at *
          have hy := HF3.out
          obtain ⟨m, rfl⟩ := Int.eq_ofNat_of_zero_le hy.1
          rw [Int.toNat_natCast] at HS
          generalize hs0 : fillL f r1 k = s0 at *
          generalize hs1 : fillL f r1 (k + 1) = s1 at *
          have hadd : ∀ W : World, (Op.stringOp .add ⟨s0.toArray⟩ ⟨[UInt8.ofNat m].toArray⟩).run Try.prog W = .ok (.string ⟨s1.toArray⟩) W := fun W => by
            rw [run_string_add_lists W _ _ (by omega) (by simp), HS.out]
          clear hz hfy hs0 hlen hat2 HF3
          have HS1 := Lib.hid hs1
          clear hs1 HS
          have hm : m ≤ 255 := by omega
          clear hy
          by_cases hneg : z < 0
          · have hp := HP1.out hneg
            have hf1 := HF1.out
            rw [if_neg (by omega)] at hf1
            obtain ⟨kk, hkk⟩ := Int.eq_ofNat_of_zero_le hp.1
            have hkl : kk < d.size := by omega
            have HM : Hid (wrap64 ((d[kk].toNat : Nat) : Int) % 256 = (m : Int)) := Lib.hid (by
              rw [hkk, Int.toNat_natCast, bytD_at d kk hkl] at hf1
              exact byte_mod _ _ hf1)
            have hdz : decide (z < 0) = true := decide_eq_true hneg
            clear hp hf1 hneg HP1 HF1
            go_wp2_with fail
            refine HCA.out.mono ?_
            rintro e wa ⟨rfl, hba⟩
            have HA := Lib.hid (HI.out.next hba)
            clear hba c0 c1 q0 q1 HI
            go_wp2_with fail
            refine (sbyte _ m HM.out wa).mono ?_
            rintro e wb ⟨rfl, hbb⟩
            have HBw := Lib.hid (HA.out.next hbb)
            clear hbb HA
            go_wp2
            go_roundw
            case rel => exact ⟨k + 1, by have := HAT2.out; omega, by rw [HAT2.out], by rw [HS1.out], HBw.out⟩
            case measure => simp [intOf]; omega
          · have hf1 := HF1.out
            rw [if_pos (by omega)] at hf1
            have HM : Hid (z % 256 = (m : Int)) := Lib.hid (by omega)
            have hdz : decide (z < 0) = false := decide_eq_false hneg
            clear hf1 hneg HP1 HF1
            go_wp2_with fail
            refine HCA.out.mono ?_
            rintro e wa ⟨rfl, hba⟩
            have HA := Lib.hid (HI.out.next hba)
            clear hba c0 c1 q0 q1 HI
            go_wp2_with fail
            refine (sbyte _ m HM.out wa).mono ?_
            rintro e wb ⟨rfl, hbb⟩
            have HBw := Lib.hid (HA.out.next hbb)
            clear hbb HA
            go_wp2
            go_roundw
            case rel => exact ⟨k + 1, by have := HAT2.out; omega, by rw [HAT2.out], by rw [HS1.out], HBw.out⟩
            case measure => simp [intOf]; omega
        · have hke : r1 + (k : Int) = r2 := by omega
          have hdk : decide (r1 + (k : Int) < r2) = false := decide_eq_false hkr
          have HC : Hid ((L.take j).map (fillC f) ++ [(⟨r1, ⟨(fillL f r1 k).toArray⟩⟩ : Ch)] = (L.take (j + 1)).map (fillC f)) := Lib.hid (by
            rw [HT.out]
            unfold fillC
            simp only
            rw [show (r2 - r1).toNat = k by omega])
          clear hke hkr
          generalize (L.take j).map (fillC f) = acc at *
          generalize (⟨(fillL f r1 k).toArray⟩ : ByteArray) = dk at *
          obtain ⟨Au, cu, rfl, _, _⟩ := HI.out.2.2.2.2.1.frs
          obtain ⟨p0, p1⟩ := HI.out.2.2.1.cells
          have pf := HI.out.2.2.1.free
          have hwb := HI.out.2.2.2.2.2.1
          have HO := Lib.hid HI.out.2.2.2.2.1
          have hgb := HI.out.2.2.2.2.2.2.2
          have hgw : g < wr.heap.size := Nat.lt_of_lt_of_le hgb hwb
          have hbw : bL < wr.heap.size := Nat.lt_of_lt_of_le hbL hwb
          have HG := Lib.hid HI.out.2.2.1
          have HCA := Lib.hid HC.out
          have haccl : acc.length + 1 ≤ 100000000000 := by
            have h := congrArg List.length HCA.out
            rw [List.length_append, List.length_map, List.length_take] at h
            simp at h
            omega
          have hle2 : w6.heap.size ≤ (wr.drew.alloc (.cells #[.int .i64 r1, .string dk] 93)).heap.size := by simp; omega
          have hlapp : (acc ++ [(⟨r1, dk⟩ : Ch)]).length = acc.length + 1 := by simp
          go_upto_region 20 with fail
          go_region_law (refine step_append_ch _ rfl (.tmp 93) (.tmp 101) rfl w6.heap.size _ acc rfl (OwnC.alloc (w := wr.drew) HO.out _) wr.heap.size 0 1 1 _ [⟨r1, dk⟩] rfl rfl (chs_one wr.drew ⟨r1, dk⟩ _) haccl hle2 ?_; intro v' w' hown' hbel; obtain ⟨A1, cc1, rfl, _, _⟩ := hown'.frs; rw [hlapp] at hown'; have HOW := Lib.hid hown'; have HBL := Lib.hid (((Below.refl w6.heap.size wr).drew.alloc hwb _).trans hbel); obtain ⟨t0, t1⟩ := (HG.out.below HBL.out hgb).cells; have tf := (HG.out.below HBL.out hgb).free; clear hown' hbel)
          all_goals go_wp2
          all_goals go_roundw
          all_goals first | exact ⟨j + 1, _, hlt, by go_num, by rw [← HCA.out]; exact HI.out.put HBL.out HOW.out⟩ | (simp [intOf]; omega)
    · obtain rfl : j = L.length := by omega
      have HE : Hid ((L.take L.length).map (fillC f) = out) := Lib.hid (by rw [List.take_length, HV.out])
      rw [HE.out] at HW
      obtain ⟨Au, cu, rfl, _, _⟩ := HW.out.2.2.2.2.1.frs
      obtain ⟨p0, p1⟩ := HW.out.2.2.1.cells
      obtain ⟨q0, q1⟩ := HW.out.2.1.cells
      have qf := HW.out.2.1.free
      have hw8 := HW.out.2.2.2.2.2.2.1
      have hw9 := HW.out.2.2.2.2.2.2.2
      go_wp2
      refine bodyPost_ret (results_cell_row rfl _ _ (w.heap.size + 1) _ _ _ _ rfl ((HW.out.2.1.set0 nx).set1 _) Try.underlying26 rfl (by kernel_rfl)) rfl ?_
      exact ⟨_, rfl, ownc_weaken ((HW.out.2.2.2.2.1.put (w.heap.size + 1) 0 _ (by omega)).put (w.heap.size + 1) 1 _ (by omega)) (by omega), (HW.out.1.2.setCell (p := ⟨_, _, _⟩) (by show w.heap.size ≤ w.heap.size + 1; omega) _).setCell (p := ⟨_, _, _⟩) (by show w.heap.size ≤ w.heap.size + 1; omega) _⟩
end Go.Proofs.Ytmmoedhfeaokgaa

namespace Go.Proofs.Ytmmoedhfeaokgaa
open Go.RowKit Go.Deep Go.Proofs.Ytmmoedhfeaokgaa.Num

set_option maxRecDepth 100000 in
set_option maxHeartbeats 2000000 in
/-- spec.InsertData, of data that doesn't go in. -/
theorem sins_no (b : Bf) (o : Int) (d : ByteArray) (A : Option Addr) (cap B : Nat) (w : World) (hB : B ≤ w.heap.size) (hr : Chs w B A b.chs) (hn : b.chs.length ≤ 10000000) (hi : inB b.chs) (hnx : -9223372036854775808 ≤ b.next ∧ b.next ≤ 9223372036854775807) (ho : -9223372036854775808 ≤ o ∧ o ≤ 9223372036854775807) (hd : d.size ≤ 8000000) (hc : ¬ canI b o d) :
    Calls Try.prog 63 #[bfV b.next (.slice A b.chs.length cap), .int .i64 o, .string d] w fun e w' => ∃ v, e = .returned (bfV b.next v) ∧ OwnC w' w.heap.size v b.chs ∧ Below w.heap.size w w' := by
  have HR := Lib.hid hr
  have HIS : Hid (∀ W, B ≤ W.heap.size → Chs W B A b.chs → Calls Try.prog 50 #[bfV b.next (.slice A b.chs.length cap)] W fun e w' => e = .returned (.bool (decide (okB b))) ∧ Below W.heap.size W w') := Lib.hid fun W h1 h2 => sisb b A cap B W h1 h2 (by omega) hi hnx
  have HCP : Hid (∀ W, B ≤ W.heap.size → Chs W B A b.chs → Calls Try.prog 74 #[bfV b.next (.slice A b.chs.length cap)] W fun e w' => ∃ v, e = .returned (bfV b.next v) ∧ OwnC w' W.heap.size v b.chs ∧ Below W.heap.size W w') := Lib.hid fun W h1 h2 => scopyb b.next b.chs A cap B W h1 h2 (by omega)
  have H2 := Lib.hid ((HeldB.start w b.next (.slice A b.chs.length cap)).alloc (.cells #[.int .i64 0, .slice none 0 0] 26))
  have X2 := BoxB.new (w.alloc (.cells #[.int .i64 b.next, .slice A b.chs.length cap] 26)) 0 (.slice none 0 0)
  rw [show (w.alloc (.cells #[.int .i64 b.next, .slice A b.chs.length cap] 26)).heap.size = w.heap.size + 1 by simp] at X2
  have HX2 := Lib.hid X2
  have hemp := data_empty d
  have hcan : Hid (canI b o d ↔ okB b ∧ d.size ≠ 0 ∧ 0 ≤ o ∧ o ≤ 4611686018427387903 - d.size ∧ b.next < o + d.size) := Lib.hid Iff.rfl
  have hok3 : okB b → 0 ≤ b.next ∧ b.next ≤ 4611686018427387903 := fun h => h.2
  clear X2 hr hi
  obtain ⟨nx, l⟩ := b
  dsimp only at *
  by_cases hok : okB ⟨nx, l⟩
  · rw [decide_eq_true hok] at HIS
    have hn0 := hok3 hok
    by_cases h1 : d.size = 0
    · rw [decide_eq_true h1] at hemp
      clear hok h1 hc hcan hok3
      go_enter Try.func63, Try.ntmps63
      go_upto_region 1 with fail
      generalize (w.alloc (.cells #[.int .i64 nx, .slice A l.length cap] 26)).alloc (.cells #[.int .i64 0, .slice none 0 0] 26) = w2 at *
      obtain ⟨q0, q1⟩ := H2.out.1.cells
      go_wp2_with fail
      refine (HIS.out w2 (Nat.le_trans hB H2.out.2.size) (HR.out.below hB H2.out.2)).mono ?_
      rintro e w3 ⟨rfl, hb3⟩
      have H3 := Lib.hid (H2.out.next hb3)
      have HX3 := Lib.hid (HX2.out.below hb3 HX2.out.lt)
      clear hb3 q0 q1 H2 HX2 HIS
      obtain ⟨q0, q1⟩ := H3.out.1.cells
      go_wp2_with fail
      refine (HCP.out w3 (Nat.le_trans hB H3.out.2.size) (HR.out.below hB H3.out.2)).mono ?_
      rintro e w4 ⟨v4, rfl, ho4, hb4⟩
      have HO4 := Lib.hid ho4
      have HX4 := Lib.hid (HX3.out.below hb4 HX3.out.lt)
      have HB4 := Lib.hid ((H3.out.next hb4).2)
      have hlt4 : w.heap.size + 1 < w3.heap.size := HX3.out.lt
      clear ho4 hb4 q0 q1
      obtain ⟨A4, c4, rfl, _, _⟩ := HO4.out.frs
      obtain ⟨q0, q1⟩ := HX4.out.cells
      have qf := HX4.out.free
      go_wp2
      refine bodyPost_ret (results_cell_row rfl _ _ (w.heap.size + 1) _ _ _ _ rfl ((HX4.out.set0 nx).set1 _) Try.underlying26 rfl (by kernel_rfl)) rfl ?_
      exact ⟨_, rfl, ownc_weaken ((HO4.out.put (w.heap.size + 1) 0 _ hlt4).put (w.heap.size + 1) 1 _ hlt4) (by omega), (HB4.out.setCell (p := ⟨_, _, _⟩) (by show w.heap.size ≤ w.heap.size + 1; omega) _).setCell (p := ⟨_, _, _⟩) (by show w.heap.size ≤ w.heap.size + 1; omega) _⟩
    · rw [decide_eq_false h1] at hemp
      by_cases h2 : o < 0
      · have hd2 : decide (o < 0) = true := decide_eq_true h2
        clear hok h1 h2 hc hcan hok3
        go_enter Try.func63, Try.ntmps63
        go_upto_region 1 with fail
        generalize (w.alloc (.cells #[.int .i64 nx, .slice A l.length cap] 26)).alloc (.cells #[.int .i64 0, .slice none 0 0] 26) = w2 at *
        obtain ⟨q0, q1⟩ := H2.out.1.cells
        go_wp2_with fail
        refine (HIS.out w2 (Nat.le_trans hB H2.out.2.size) (HR.out.below hB H2.out.2)).mono ?_
        rintro e w3 ⟨rfl, hb3⟩
        have H3 := Lib.hid (H2.out.next hb3)
        have HX3 := Lib.hid (HX2.out.below hb3 HX2.out.lt)
        clear hb3 q0 q1 H2 HX2 HIS
        obtain ⟨q0, q1⟩ := H3.out.1.cells
        go_wp2_with fail
        refine (HCP.out w3 (Nat.le_trans hB H3.out.2.size) (HR.out.below hB H3.out.2)).mono ?_
        rintro e w4 ⟨v4, rfl, ho4, hb4⟩
        have HO4 := Lib.hid ho4
        have HX4 := Lib.hid (HX3.out.below hb4 HX3.out.lt)
        have HB4 := Lib.hid ((H3.out.next hb4).2)
        have hlt4 : w.heap.size + 1 < w3.heap.size := HX3.out.lt
        clear ho4 hb4 q0 q1
        obtain ⟨A4, c4, rfl, _, _⟩ := HO4.out.frs
        obtain ⟨q0, q1⟩ := HX4.out.cells
        have qf := HX4.out.free
        go_wp2
        refine bodyPost_ret (results_cell_row rfl _ _ (w.heap.size + 1) _ _ _ _ rfl ((HX4.out.set0 nx).set1 _) Try.underlying26 rfl (by kernel_rfl)) rfl ?_
        exact ⟨_, rfl, ownc_weaken ((HO4.out.put (w.heap.size + 1) 0 _ hlt4).put (w.heap.size + 1) 1 _ hlt4) (by omega), (HB4.out.setCell (p := ⟨_, _, _⟩) (by show w.heap.size ≤ w.heap.size + 1; omega) _).setCell (p := ⟨_, _, _⟩) (by show w.heap.size ≤ w.heap.size + 1; omega) _⟩
      · have hd2 : decide (o < 0) = false := decide_eq_false h2
        by_cases h3 : 4611686018427387903 - (d.size : Int) < o
        · have hd3 : decide (4611686018427387903 - (d.size : Int) < o) = true := decide_eq_true h3
          clear hok h1 h2 h3 hc hcan hok3
          go_enter Try.func63, Try.ntmps63
          go_upto_region 1 with fail
          generalize (w.alloc (.cells #[.int .i64 nx, .slice A l.length cap] 26)).alloc (.cells #[.int .i64 0, .slice none 0 0] 26) = w2 at *
          obtain ⟨q0, q1⟩ := H2.out.1.cells
          go_wp2_with fail
          refine (HIS.out w2 (Nat.le_trans hB H2.out.2.size) (HR.out.below hB H2.out.2)).mono ?_
          rintro e w3 ⟨rfl, hb3⟩
          have H3 := Lib.hid (H2.out.next hb3)
          have HX3 := Lib.hid (HX2.out.below hb3 HX2.out.lt)
          clear hb3 q0 q1 H2 HX2 HIS
          obtain ⟨q0, q1⟩ := H3.out.1.cells
          go_wp2_with fail
          refine (HCP.out w3 (Nat.le_trans hB H3.out.2.size) (HR.out.below hB H3.out.2)).mono ?_
          rintro e w4 ⟨v4, rfl, ho4, hb4⟩
          have HO4 := Lib.hid ho4
          have HX4 := Lib.hid (HX3.out.below hb4 HX3.out.lt)
          have HB4 := Lib.hid ((H3.out.next hb4).2)
          have hlt4 : w.heap.size + 1 < w3.heap.size := HX3.out.lt
          clear ho4 hb4 q0 q1
          obtain ⟨A4, c4, rfl, _, _⟩ := HO4.out.frs
          obtain ⟨q0, q1⟩ := HX4.out.cells
          have qf := HX4.out.free
          go_wp2
          refine bodyPost_ret (results_cell_row rfl _ _ (w.heap.size + 1) _ _ _ _ rfl ((HX4.out.set0 nx).set1 _) Try.underlying26 rfl (by kernel_rfl)) rfl ?_
          exact ⟨_, rfl, ownc_weaken ((HO4.out.put (w.heap.size + 1) 0 _ hlt4).put (w.heap.size + 1) 1 _ hlt4) (by omega), (HB4.out.setCell (p := ⟨_, _, _⟩) (by show w.heap.size ≤ w.heap.size + 1; omega) _).setCell (p := ⟨_, _, _⟩) (by show w.heap.size ≤ w.heap.size + 1; omega) _⟩
        · have hd3 : decide (4611686018427387903 - (d.size : Int) < o) = false := decide_eq_false h3
          have h4 : o + (d.size : Int) ≤ nx := Int.not_lt.1 fun h => hc (hcan.out.2 ⟨hok, h1, by omega, by omega, h⟩)
          have hmax : (if o < nx then nx else o) = nx := if_pos (by omega)
          have hd4 : decide (o + (d.size : Int) ≤ nx) = true := decide_eq_true h4
          have ho2 : 0 ≤ o := by omega
          have ho3 : o ≤ 4611686018427387903 := by omega
          have hsz : (0 : Int) ≤ d.size := by omega
          clear hok h1 h2 h3 hc hcan hok3
          go_enter Try.func63, Try.ntmps63
          go_upto_region 1 with fail
          generalize (w.alloc (.cells #[.int .i64 nx, .slice A l.length cap] 26)).alloc (.cells #[.int .i64 0, .slice none 0 0] 26) = w2 at *
          obtain ⟨q0, q1⟩ := H2.out.1.cells
          go_wp2_with fail
          refine (HIS.out w2 (Nat.le_trans hB H2.out.2.size) (HR.out.below hB H2.out.2)).mono ?_
          rintro e w3 ⟨rfl, hb3⟩
          have H3 := Lib.hid (H2.out.next hb3)
          have HX3 := Lib.hid (HX2.out.below hb3 HX2.out.lt)
          clear hb3 q0 q1 H2 HX2 HIS
          obtain ⟨q0, q1⟩ := H3.out.1.cells
          go_wp2_with fail
          refine (HCP.out w3 (Nat.le_trans hB H3.out.2.size) (HR.out.below hB H3.out.2)).mono ?_
          rintro e w4 ⟨v4, rfl, ho4, hb4⟩
          have HO4 := Lib.hid ho4
          have HX4 := Lib.hid (HX3.out.below hb4 HX3.out.lt)
          have HB4 := Lib.hid ((H3.out.next hb4).2)
          have hlt4 : w.heap.size + 1 < w3.heap.size := HX3.out.lt
          clear ho4 hb4 q0 q1
          obtain ⟨A4, c4, rfl, _, _⟩ := HO4.out.frs
          obtain ⟨q0, q1⟩ := HX4.out.cells
          have qf := HX4.out.free
          go_wp2
          refine bodyPost_ret (results_cell_row rfl _ _ (w.heap.size + 1) _ _ _ _ rfl ((HX4.out.set0 nx).set1 _) Try.underlying26 rfl (by kernel_rfl)) rfl ?_
          exact ⟨_, rfl, ownc_weaken ((HO4.out.put (w.heap.size + 1) 0 _ hlt4).put (w.heap.size + 1) 1 _ hlt4) (by omega), (HB4.out.setCell (p := ⟨_, _, _⟩) (by show w.heap.size ≤ w.heap.size + 1; omega) _).setCell (p := ⟨_, _, _⟩) (by show w.heap.size ≤ w.heap.size + 1; omega) _⟩
  · rw [decide_eq_false hok] at HIS
    clear hok hc hcan hok3 hemp
    go_enter Try.func63, Try.ntmps63
    go_upto_region 1 with fail
    generalize (w.alloc (.cells #[.int .i64 nx, .slice A l.length cap] 26)).alloc (.cells #[.int .i64 0, .slice none 0 0] 26) = w2 at *
    obtain ⟨q0, q1⟩ := H2.out.1.cells
    go_wp2_with fail
    refine (HIS.out w2 (Nat.le_trans hB H2.out.2.size) (HR.out.below hB H2.out.2)).mono ?_
    rintro e w3 ⟨rfl, hb3⟩
    have H3 := Lib.hid (H2.out.next hb3)
    have HX3 := Lib.hid (HX2.out.below hb3 HX2.out.lt)
    clear hb3 q0 q1 H2 HX2 HIS
    obtain ⟨q0, q1⟩ := H3.out.1.cells
    go_wp2_with fail
    refine (HCP.out w3 (Nat.le_trans hB H3.out.2.size) (HR.out.below hB H3.out.2)).mono ?_
    rintro e w4 ⟨v4, rfl, ho4, hb4⟩
    have HO4 := Lib.hid ho4
    have HX4 := Lib.hid (HX3.out.below hb4 HX3.out.lt)
    have HB4 := Lib.hid ((H3.out.next hb4).2)
    have hlt4 : w.heap.size + 1 < w3.heap.size := HX3.out.lt
    clear ho4 hb4 q0 q1
    obtain ⟨A4, c4, rfl, _, _⟩ := HO4.out.frs
    obtain ⟨q0, q1⟩ := HX4.out.cells
    have qf := HX4.out.free
    go_wp2
    refine bodyPost_ret (results_cell_row rfl _ _ (w.heap.size + 1) _ _ _ _ rfl ((HX4.out.set0 nx).set1 _) Try.underlying26 rfl (by kernel_rfl)) rfl ?_
    exact ⟨_, rfl, ownc_weaken ((HO4.out.put (w.heap.size + 1) 0 _ hlt4).put (w.heap.size + 1) 1 _ hlt4) (by omega), (HB4.out.setCell (p := ⟨_, _, _⟩) (by show w.heap.size ≤ w.heap.size + 1; omega) _).setCell (p := ⟨_, _, _⟩) (by show w.heap.size ≤ w.heap.size + 1; omega) _⟩
/-- spec.InsertData -/
theorem sins (b : Bf) (o : Int) (d : ByteArray) (A : Option Addr) (cap B : Nat) (w : World) (hB : B ≤ w.heap.size) (hr : Chs w B A b.chs) (hn : b.chs.length ≤ 10000000) (hi : inB b.chs) (hnx : -9223372036854775808 ≤ b.next ∧ b.next ≤ 9223372036854775807) (ho : -9223372036854775808 ≤ o ∧ o ≤ 9223372036854775807) (hd : sumC b.chs + d.size ≤ 8000000) :
    Calls Try.prog 63 #[bfV b.next (.slice A b.chs.length cap), .int .i64 o, .string d] w fun e w' => ∃ v, e = .returned (bfV b.next v) ∧ OwnC w' w.heap.size v (insB b o d).chs ∧ Below w.heap.size w w' := by
  by_cases hc : canI b o d
  · exact sins_yes b o d A cap B w hB hr hn hi hnx hd hc
  · have h := sins_no b o d A cap B w hB hr hn hi hnx ho (by have := sumC_nonneg b.chs; omega) hc
    rw [show insB b o d = b from if_neg hc]
    exact h
end Go.Proofs.Ytmmoedhfeaokgaa
