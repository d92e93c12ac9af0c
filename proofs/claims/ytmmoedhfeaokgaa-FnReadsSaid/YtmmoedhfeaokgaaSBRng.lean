/-
  What spec.BufferRanges returns.
-/
import Derived.Test.YtmmoedhfeaokgaaSBCopy
import Derived.Test.YtmmoedhfeaokgaaSBuf1
import Derived.Test.YtmmoedhfeaokgaaSRngK
namespace Go.Proofs.Ytmmoedhfeaokgaa
open Go.RowKit Go.Deep Go.Proofs.Ytmmoedhfeaokgaa.Num

theorem HeldB.more {w W W1 : World} {n : Int} {v : Value} (h : HeldB w n v W) (hb : Below (w.heap.size + 1) W W1) : HeldB w n v W1 := ⟨h.1.below hb (Nat.lt_succ_self _), h.2.trans (hb.mono (Nat.le_succ _))⟩
theorem rgsB_take (l : List Ch) (j : Nat) (h : j < l.length) : (l.map ckR).take (j + 1) = (l.map ckR).take j ++ [(l[j].off, l[j].off + l[j].data.size)] := by
  rw [List.take_succ_eq_append_getElem (by simpa using h), List.getElem_map]
  rfl

set_option maxRecDepth 100000 in
set_option maxHeartbeats 1000000 in
/-- spec.BufferRanges -/
theorem sbrng (b : Bf) (A : Option Addr) (cap B : Nat) (w : World) (hB : B ≤ w.heap.size) (hr : Chs w B A b.chs) (hn : b.chs.length ≤ 1000000000) (hi : inB b.chs) (hnx : -9223372036854775808 ≤ b.next ∧ b.next ≤ 9223372036854775807) :
    Calls Try.prog 84 #[bfV b.next (.slice A b.chs.length cap)] w fun e w' => ∃ v, e = .returned v ∧ OwnR w' w.heap.size v (rgsB b) ∧ Below w.heap.size w w' := by
  have HR := Lib.hid hr
  have HIS : Hid (∀ W, B ≤ W.heap.size → Chs W B A b.chs → Calls Try.prog 50 #[bfV b.next (.slice A b.chs.length cap)] W fun e w' => e = .returned (.bool (decide (okB b))) ∧ Below W.heap.size W w') := Lib.hid fun W h1 h2 => sisb b A cap B W h1 h2 hn hi hnx
  have H0 := Lib.hid ((HeldB.start w b.next (.slice A b.chs.length cap)).alloc (.cells #[] 104))
  have HO0 := Lib.hid (OwnR.lit (w.alloc (.cells #[.int .i64 b.next, .slice A b.chs.length cap] 26)) (w.heap.size + 1) 0 #[] (by simp) (by decide) rfl)
  have hsz0 : w.heap.size + 1 ≤ ((w.alloc (.cells #[.int .i64 b.next, .slice A b.chs.length cap] 26)).alloc (.cells #[] 104)).heap.size := by simp
  have HSZ := Lib.hid hsz0
  have hs1 : (w.alloc (.cells #[.int .i64 b.next, .slice A b.chs.length cap] 26)).heap.size = w.heap.size + 1 := by simp
  rw [hs1] at HO0
  clear hr hs1 hsz0
  have HRB : Hid (rgsB b = if okB b then b.chs.map ckR else []) := Lib.hid rfl
  by_cases hok : okB b
  · rw [decide_eq_true hok] at HIS
    rw [if_pos hok] at HRB
    have HBL : Hid (∀ c ∈ b.chs, 0 ≤ c.off ∧ c.off + (c.data.size : Int) ≤ 4611686018427387903) := Lib.hid fun c hc => by
      have h := okR.below hok.1 (ckR c) (List.mem_map_of_mem hc)
      have h1 := h.1
      have h2 := h.2.2
      have h3 := hok.2.1
      simp only [ckR] at h1 h2
      omega
    clear hok hi hnx
    obtain ⟨nx, l⟩ := b
    dsimp only at *
    go_enter Try.func84, Try.ntmps84
    go_wp2
    go_loopw [3, 4] (fun v i wr => ∃ (j : Nat), j ≤ l.length ∧ i = .int .i64 j ∧ HeldB w nx (.slice A l.length cap) wr ∧ OwnR wr (w.heap.size + 1) v ((l.map ckR).take j) ∧ w.heap.size + 1 ≤ wr.heap.size) (fun _ i _ => l.length - (intOf i).toNat)
    case atStart => exact ⟨0, Nat.zero_le _, rfl, H0.out, HO0.out, HSZ.out⟩
    case round =>
      obtain ⟨j, hj, rfl, hh, ho, hsz⟩ := hrel
      have HH := Lib.hid hh
      have HO := Lib.hid ho
      clear hh ho H0 HO0 HSZ
      obtain ⟨q0, q1⟩ := HH.out.1.cells
      by_cases hlt : j < l.length
      · go_wp2_with fail
        refine (HIS.out _ (Nat.le_trans hB HH.out.2.size) (HR.out.below hB HH.out.2)).mono ?_
        rintro e w1 ⟨rfl, hb1⟩
        have H1 := Lib.hid (HH.out.next hb1)
        have HO1 := Lib.hid (owns_later HO.out hb1)
        have hsz1 : w.heap.size + 1 ≤ w1.heap.size := Nat.le_trans hsz hb1.size
        clear hb1 HH HO q0 q1 hsz
        obtain ⟨q0, q1⟩ := H1.out.1.cells
        obtain ⟨g, off, rfl, hbB, c0, c1⟩ := (HR.out.below hB H1.out.2).cells j hlt
        have hin := HBL.out l[j] (List.getElem_mem hlt)
        have HT := Lib.hid (rgsB_take l j hlt)
        have hll : ((l.map ckR).take j).length ≤ j := List.length_take_le _ _
        generalize l[j] = c at *
        obtain ⟨m, hm⟩ : ∃ m : Int, c.off + (c.data.size : Int) = m := ⟨_, rfl⟩
        have hwm : IntKind.i64.wrap (c.off + (c.data.size : Int)) = m := by rw [IntKind.wrap_i64]; omega
        rw [hm] at HT
        have HOB := Lib.hid (show OwnR w1 (w.heap.size + 1) _ ((l.map ckR).take j) from HO1.out)
        have hgw : g < w1.heap.size := Nat.lt_of_lt_of_le hbB (Nat.le_trans hB H1.out.2.size)
        have hS : ∀ W, Below (w.heap.size + 1) w1 W → W.cell? ⟨w.heap.size, 0, none⟩ = some (.int .i64 nx) ∧ W.cell? ⟨w.heap.size, 1, none⟩ = some (.slice (some ⟨g, off, none⟩) l.length cap) ∧ W.cell? ⟨g, off + j * 2, none⟩ = some (.int .i64 c.off) ∧ W.cell? ⟨g, off + j * 2 + 1, none⟩ = some (.string c.data) := fun W h =>
          ⟨(h.cell (p := ⟨w.heap.size, 0, none⟩) (Nat.lt_succ_self _)).trans q0, (h.cell (p := ⟨w.heap.size, 1, none⟩) (Nat.lt_succ_self _)).trans q1, (h.cell (p := ⟨g, off + j * 2, none⟩) (by show g < _; omega)).trans c0, (h.cell (p := ⟨g, off + j * 2 + 1, none⟩) (by show g < _; omega)).trans c1⟩
        have hln : ((l.map ckR).take j).length + 1 ≤ 1000000000000 := by omega
        have hle2 : w.heap.size + 1 ≤ (w1.drew.alloc (.cells #[.int .i64 c.off, .int .i64 m] 104)).heap.size := by simp; omega
        clear hm hin hll
        go_upto_region 5 with fail
        go_region_held3 (fun W => W.cell? ⟨w.heap.size, 0, none⟩ = some (.int .i64 nx) ∧ W.cell? ⟨w.heap.size, 1, none⟩ = some (.slice (some ⟨g, off, none⟩) l.length cap) ∧ W.cell? ⟨g, off + j * 2, none⟩ = some (.int .i64 c.off) ∧ W.cell? ⟨g, off + j * 2 + 1, none⟩ = some (.string c.data)) (first | exact hS _ (Below.refl _ _).drew | exact hS _ ((Below.refl _ _).drew.alloc hsz1 _) | exact hS _ (((Below.refl _ _).drew.alloc hsz1 _).trans hbel)) (first | (refine step_append_rgs _ rfl (.tmp 17) (.tmp 39) rfl (w.heap.size + 1) _ ((l.map ckR).take j) rfl (OwnR.alloc (w := w1.drew) HOB.out _) w1.heap.size 0 1 1 _ [(c.off, m)] rfl rfl (rgs_one w1.drew (c.off, m) _) hln hle2 ?_; intro v' w' hown' hbel))
        have H2 := Lib.hid (H1.out.more (((Below.refl _ _).drew.alloc hsz1 _).trans hbel))
        have HO2 := Lib.hid hown'
        have hsz2 := Nat.le_trans hle2 hbel.size
        rw [← HT.out] at HO2
        clear hbel hown' HT HOB hS q0 q1 c0 c1
        go_wp2
        go_roundw
        case rel => exact ⟨j + 1, hlt, by go_num, H2.out, HO2.out, hsz2⟩
        case measure => simp [intOf]; omega
      · obtain rfl : j = l.length := by omega
        have HT : Hid ((l.map ckR).take l.length = l.map ckR) := Lib.hid (by rw [List.take_of_length_le]; simp)
        rw [HT.out] at HO
        go_wp2
        go_ret
        exact ⟨_, rfl, by rw [HRB.out]; exact own_weaken HO.out (Nat.le_succ _), HH.out.2⟩
  · rw [decide_eq_false hok] at HIS
    rw [if_neg hok] at HRB
    clear hok hi hnx
    obtain ⟨nx, l⟩ := b
    dsimp only at *
    go_enter Try.func84, Try.ntmps84
    go_wp2
    go_loopw [3, 4] (fun v i wr => i = .int .i64 0 ∧ HeldB w nx (.slice A l.length cap) wr ∧ OwnR wr (w.heap.size + 1) v []) (fun _ _ _ => 0)
    case atStart => exact ⟨rfl, H0.out, HO0.out⟩
    case round =>
      obtain ⟨rfl, hh, ho⟩ := hrel
      have HH := Lib.hid hh
      have HO := Lib.hid ho
      clear hh ho H0 HO0 HSZ
      obtain ⟨q0, q1⟩ := HH.out.1.cells
      by_cases hlt : 0 < l.length
      · go_wp2_with fail
        refine (HIS.out _ (Nat.le_trans hB HH.out.2.size) (HR.out.below hB HH.out.2)).mono ?_
        rintro e w1 ⟨rfl, hb1⟩
        have H1 := Lib.hid (HH.out.next hb1)
        have HO1 := Lib.hid (owns_later HO.out hb1)
        clear hb1
        go_wp2
        go_ret
        exact ⟨_, rfl, by rw [HRB.out]; exact own_weaken HO1.out (Nat.le_succ _), H1.out.2⟩
      · have hz : l.length = 0 := by omega
        clear hlt
        obtain rfl : l = [] := List.eq_nil_of_length_eq_zero hz
        clear hz
        go_wp2
        go_ret
        exact ⟨_, rfl, by rw [HRB.out]; exact own_weaken HO.out (Nat.le_succ _), HH.out.2⟩
end Go.Proofs.Ytmmoedhfeaokgaa
