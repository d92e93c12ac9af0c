/-
  The law on taking bytes, walked.
-/
import Derived.Test.YtmaaldmakgjplaaLBufVar
import Derived.Test.YtmaaldmakgjplaaDraws6
import Derived.Test.YtmaaldmakgjplaaSBuf2
import Derived.Test.YtmaaldmakgjplaaBig
import Derived.Test.YtmaaldmakgjplaaCodeRow
namespace Go.Proofs.Ytmaaldmakgjplaa
open Go.RowKit Go.Deep Go.Proofs.Ytmaaldmakgjplaa.Num

theorem dropT_next (b : Bf) (m : Int) : (dropT b (cntT b m)).next = b.next + cntT b m := by
  by_cases h0 : cntT b m = 0
  · rw [h0, show dropT b 0 = b from if_pos rfl]; simp
  · have hr : rdyB b ≠ 0 := by unfold cntT at h0; omega
    obtain ⟨_, c, l, hl, _, _⟩ := rdyB_pos hr
    unfold dropT
    rw [if_neg h0, hl]
theorem headT_bad {b : Bf} {m : Int} (h : ¬ okB b) : headT b (cntT b m) = ⟨#[]⟩ := by
  have hr : rdyB b = 0 := by unfold rdyB; rw [if_neg h]
  have h0 : cntT b m = 0 := by unfold cntT; omega
  unfold headT
  rw [if_pos h0]
theorem bneI (x : Int) : (x != x) = false := by simp
theorem beqI (x : Int) : (x == x) = true := by simp

set_option maxRecDepth 100000 in
set_option maxHeartbeats 4000000 in
/-- The law, of an impl that answers so. -/
theorem law_Takes
    (HT : ∀ (b : Bf) (o : Int) (A : Option Addr) (cap B : Nat) (w : World), B ≤ w.heap.size → Chs w B A b.chs → b.chs.length ≤ 1048576 → inB b.chs → (-9223372036854775808 ≤ b.next ∧ b.next ≤ 9223372036854775807) → (-9223372036854775808 ≤ o ∧ o ≤ 9223372036854775807) →
      Calls Try.prog 35 #[bfV b.next (.slice A b.chs.length cap), .int .i64 o] w fun e w' => ∃ v, e = .returned (.tuple #[.string (headT b (cntT b o)), bfV (dropT b (cntT b o)).next v]) ∧ OwnX w' w.heap.size v (dropT b (cntT b o)).chs ∧ Below w.heap.size w w')
    (HD : ∀ (b : Bf) (A : Option Addr) (cap B : Nat) (w : World), B ≤ w.heap.size → Chs w B A b.chs → b.chs.length ≤ 1048576 → inB b.chs → (-9223372036854775808 ≤ b.next ∧ b.next ≤ 9223372036854775807) → Calls Try.prog 30 #[bfV b.next (.slice A b.chs.length cap)] w fun e w' => e = .returned (.int .i64 ((rdyB b : Int))) ∧ Below w.heap.size w w')
    (HI : ∀ (b : Bf) (A : Option Addr) (cap B : Nat) (w : World), B ≤ w.heap.size → Chs w B A b.chs → b.chs.length ≤ 1048576 → inB b.chs → (-9223372036854775808 ≤ b.next ∧ b.next ≤ 9223372036854775807) → Calls Try.prog 18 #[bfV b.next (.slice A b.chs.length cap)] w fun e w' => e = .returned (.bool (decide (okB b))) ∧ Below w.heap.size w w')
    (A : Option Addr) (len cap : Nat) (w : World) (hlen : len ≤ maxLen) (hcode : Code w w.heap.size A len) :
    Calls Try.prog 4 #[.slice A len cap] w fun e w' => e = .returned (.bool true) ∧ Below w.heap.size w w' := by
  by_cases hbig : 1048576 < len
  · clear HT HD HI
    go_enter Try.func4, Try.ntmps4
    go_wp2_with (go_at_call 13; refine (big_yes A len cap _ hbig hlen).mono ?_; rintro e w' ⟨rfl, rfl⟩)
    go_ret
    exact ⟨rfl, Below.refl _ _⟩
  have hsm : len ≤ 1048576 := by omega
  clear hbig
  have HC := Lib.hid hcode
  have HT' := Lib.hid HT
  have HD' := Lib.hid HD
  have HI' := Lib.hid HI
  have HL := Lib.hid hlen
  clear hcode hlen HT HD HI
  go_enter Try.func4, Try.ntmps4
  go_wp2_with fail
  refine (big_no A len cap _ hsm).mono ?_
  rintro e w' ⟨rfl, rfl⟩
  go_wp2_with fail
  refine (draw_take A len cap _ HL.out HC.out).mono ?_
  rintro e w1 ⟨b, v, m, rfl, hsb, hm, ho, hb1⟩
  obtain ⟨A1, c1, rfl, _, _⟩ := ho.frs
  have VB := Lib.hid (VarB.new b.next 26 ho.x hb1.size)
  have B2 := Lib.hid (hb1.alloc hb1.size (.cells #[.int .i64 b.next, .slice A1 b.chs.length c1] 26))
  have HSB := Lib.hid hsb
  have hbl := hsb.1
  -- what the calls on this buffer return
  have HTI : Hid (∀ W, Chs W W.heap.size A1 b.chs → Calls Try.prog 35 #[bfV b.next (.slice A1 b.chs.length c1), .int .i64 m] W fun e w' => ∃ v, e = .returned (.tuple #[.string (headT b (cntT b m)), bfV (dropT b (cntT b m)).next v]) ∧ OwnX w' W.heap.size v (dropT b (cntT b m)).chs ∧ Below W.heap.size W w') := Lib.hid fun W h => HT'.out b m A1 c1 W.heap.size W (Nat.le_refl _) h (by omega) (smallB.inB HSB.out) HSB.out.2.2.2 (by omega)
  have HTS : Hid (∀ W, Chs W W.heap.size A1 b.chs → Calls Try.prog 36 #[bfV b.next (.slice A1 b.chs.length c1), .int .i64 m] W fun e w' => ∃ v, e = .returned (.tuple #[.string (headT b (cntT b m)), bfV (dropT b (cntT b m)).next v]) ∧ OwnC w' W.heap.size v (dropT b (cntT b m)).chs ∧ Below W.heap.size W w') := Lib.hid fun W h => stake b m A1 c1 W.heap.size W (Nat.le_refl _) h (by omega) (smallB.inB HSB.out) HSB.out.2.2.2 (by omega)
  have HIS : Hid (∀ W, Chs W W.heap.size A1 b.chs → Calls Try.prog 19 #[bfV b.next (.slice A1 b.chs.length c1)] W fun e w' => e = .returned (.bool (decide (okB b))) ∧ Below W.heap.size W w') := Lib.hid fun W h => sisb b A1 c1 W.heap.size W (Nat.le_refl _) h (by omega) (smallB.inB HSB.out) HSB.out.2.2.2
  have HAT : Hid (∀ (o : Int) W, -9223372036854775808 ≤ o ∧ o ≤ 9223372036854775807 → Chs W W.heap.size A1 b.chs → Calls Try.prog 20 #[bfV b.next (.slice A1 b.chs.length c1), .int .i64 o] W fun e w' => e = .returned (.int .i64 (byteB b.chs o)) ∧ Below W.heap.size W w') := Lib.hid fun o W h0 h => sbyteat b.next b.chs o A1 c1 W.heap.size W (Nat.le_refl _) h (by omega) (smallB.inB HSB.out) h0
  have HRD : Hid (∀ W, Chs W W.heap.size A1 b.chs → Calls Try.prog 30 #[bfV b.next (.slice A1 b.chs.length c1)] W fun e w' => e = .returned (.int .i64 ((rdyB b : Int))) ∧ Below W.heap.size W w') := Lib.hid fun W h => HD'.out b A1 c1 W.heap.size W (Nat.le_refl _) h (by omega) (smallB.inB HSB.out) HSB.out.2.2.2
  have hol := dropT_len2 b (cntT b m)
  have hos := dropT_sum b (cntT b m)
  have HIY : Hid (okB b → ∀ A c W, Chs W W.heap.size A (dropT b (cntT b m)).chs → Calls Try.prog 18 #[bfV (dropT b (cntT b m)).next (.slice A (dropT b (cntT b m)).chs.length c)] W fun e w' => e = .returned (.bool true) ∧ Below W.heap.size W w') := Lib.hid fun hk A c W h => by
    have hk2 := dropT_ok b m hk
    have hs2 := okB_small hk2 (by omega) (by have := HSB.out.2.1; omega)
    have h2 := HI'.out (dropT b (cntT b m)) A c W.heap.size W (Nat.le_refl _) h (by omega) (smallB.inB hs2) hs2.2.2.2
    rw [decide_eq_true hk2] at h2
    exact h2
  have HNX := Lib.hid (dropT_next b m)
  have HHS := Lib.hid (headT_size b m)
  have HHB := Lib.hid (headT_byte b m)
  have HHX : Hid (¬ okB b → headT b (cntT b m) = ⟨#[]⟩) := Lib.hid headT_bad
  have HCN : Hid (cntT b m = min (rdyB b) (max m 0).toNat) := Lib.hid rfl
  have hn20 : cntT b m ≤ 100 := by
    have h := HCN.out
    have h2 : rdyB b ≤ 100 := by
      by_cases h3 : rdyB b = 0
      · omega
      · obtain ⟨_, c, l, hl, _, hs⟩ := rdyB_pos h3
        have := HSB.out.sizes c (by rw [hl]; exact List.mem_cons_self ..)
        omega
    omega
  have hnxr := HSB.out.2.2.2
  have HSBX := HSB
  have hol2 : (dropT b (cntT b m)).chs.length ≤ 10 := by omega
  clear hb1 ho hsb HT' HD' HI' hol hos
  generalize headT b (cntT b m) = s at *
  generalize dropT b (cntT b m) = out at *
  generalize cntT b m = n at *
  obtain ⟨nxo, L⟩ := out
  dsimp only at *
  have HEQ : Hid (∀ (X Y : Option Addr) (cx cy : Nat) W, Chs W W.heap.size X L → Chs W W.heap.size Y L → Calls Try.prog 17 #[bfV nxo (.slice X L.length cx), bfV nxo (.slice Y L.length cy)] W fun e w' => e = .returned (.bool true) ∧ Below W.heap.size W w') := Lib.hid fun X Y cx cy W h h' => by
    have h2 := sequal nxo nxo L L X Y cx cy W.heap.size W (Nat.le_refl _) h h' (by omega)
    rw [decide_eq_true ⟨rfl, rfl⟩] at h2
    exact h2
  go_upto_region 4 with fail
  generalize w1.alloc (.cells #[.int .i64 b.next, .slice A1 b.chs.length c1] 26) = w2 at *
  generalize w1.heap.size = kb at *
  obtain ⟨p0, p1⟩ := VB.out.1
  go_wp2_with fail
  refine (HTI.out w2 VB.out.2.1.chs).mono ?_
  rintro e w3 ⟨v3, rfl, ho3, hb3⟩
  obtain ⟨A3, c3, rfl, _, _⟩ := ho3.frs
  have X4 := Lib.hid (VarB.new nxo 26 ho3 hb3.size)
  have V4 := Lib.hid ((VB.out.next hb3).alloc (.cells #[.int .i64 nxo, .slice A3 L.length c3] 26))
  have B4 := Lib.hid ((B2.out.trans (hb3.mono B2.out.size)).alloc (Nat.le_trans B2.out.size hb3.size) (.cells #[.int .i64 nxo, .slice A3 L.length c3] 26))
  clear ho3 hb3 VB B2 p0 p1 HTI
  go_upto_region 5 with fail
  generalize w3.alloc (.cells #[.int .i64 nxo, .slice A3 L.length c3] 26) = w4 at *
  generalize w3.heap.size = kx at *
  obtain ⟨p0, p1⟩ := V4.out.1
  go_wp2_with fail
  refine (HTS.out w4 V4.out.2.1.chs).mono ?_
  rintro e w5 ⟨v5, rfl, ho5, hb5⟩
  obtain ⟨A5, c5, rfl, _, _⟩ := ho5.frs
  have Y6 := Lib.hid (VarB.new nxo 26 ho5.x hb5.size)
  have V6 := Lib.hid ((V4.out.next hb5).alloc (.cells #[.int .i64 nxo, .slice A5 L.length c5] 26))
  have X6 := Lib.hid ((X4.out.next hb5).alloc (.cells #[.int .i64 nxo, .slice A5 L.length c5] 26))
  have B6 := Lib.hid ((B4.out.trans (hb5.mono B4.out.size)).alloc (Nat.le_trans B4.out.size hb5.size) (.cells #[.int .i64 nxo, .slice A5 L.length c5] 26))
  clear ho5 hb5 V4 X4 B4 p0 p1 HTS
  go_upto_region 6 with fail
  generalize w5.alloc (.cells #[.int .i64 nxo, .slice A5 L.length c5] 26) = w6 at *
  generalize w5.heap.size = ky at *
  obtain ⟨x0, x1⟩ := X6.out.1
  obtain ⟨y0, y1⟩ := Y6.out.1
  go_wp2_with fail
  refine (HEQ.out _ _ _ _ w6 X6.out.2.1.chs Y6.out.2.1.chs).mono ?_
  rintro e w7 ⟨rfl, hb7⟩
  have Y7 := Lib.hid (Y6.out.next hb7)
  have V7 := Lib.hid (V6.out.next hb7)
  have B7 := Lib.hid (B6.out.trans (hb7.mono B6.out.size))
  clear hb7 x0 x1 y0 y1 X6 Y6 V6 B6 HEQ
  obtain ⟨p0, p1⟩ := V7.out.1
  go_wp2_with fail
  refine (HIS.out w7 V7.out.2.1.chs).mono ?_
  rintro e w8 ⟨rfl, hb8⟩
  have Y8 := Lib.hid (Y7.out.next hb8)
  have V8 := Lib.hid (V7.out.next hb8)
  have B8 := Lib.hid (B7.out.trans (hb8.mono B7.out.size))
  clear hb8 p0 p1 Y7 V7 B7 HIS
  by_cases hok : okB b
  · have hdk : decide (okB b) = true := decide_eq_true hok
    have HIY2 := Lib.hid (HIY.out hok)
    have HOK := Lib.hid hok
    clear hok HIY HHX
    rw [hdk]
    clear hdk
    have hn0 : 0 ≤ b.next := HOK.out.2.1
    have hn1 : b.next ≤ 4611686018427387903 := HOK.out.2.2
    have hsn : s.size ≤ 100 := by have := HHS.out; omega
    go_wp2
    go_loopw [9] (fun i wr => ∃ k : Nat, k ≤ s.size ∧ i = .int .i64 k ∧ VarB wr w.heap.size kb b.next (.slice A1 b.chs.length c1) b.chs ∧ VarB wr w4.heap.size ky nxo (.slice A5 L.length c5) L ∧ Below w.heap.size w wr) (fun i _ => s.size - (intOf i).toNat)
    case atStart => exact ⟨0, Nat.zero_le _, rfl, V8.out, Y8.out, B8.out⟩
    case round =>
      obtain ⟨k, hk, rfl, hv, hy, hb⟩ := hrel
      have HV := Lib.hid hv
      have HY := Lib.hid hy
      have HB := Lib.hid hb
      clear hv hy hb V8 Y8 B8
      obtain ⟨p0, p1⟩ := HV.out.1
      by_cases hlt : k < s.size
      · have hz := HHB.out k (by have := HHS.out; omega)
        rw [bytD_at s k hlt] at hz
        have HA2 := Lib.hid (HAT.out (b.next + (k : Int)) wr.drew (by omega) (VarB.next (HV.out) (Below.refl _ _).drew).2.1.chs)
        rw [← hz] at HA2
        clear hz
        have hcv : IntKind.i64.wrap ((s[k].toNat : Nat) : Int) = ((s[k].toNat : Nat) : Int) := by
          have := s[k].toNat_lt
          rw [IntKind.wrap_i64]; omega
        have hsum : IntKind.i64.wrap (b.next + (k : Int)) = b.next + (k : Int) := by rw [IntKind.wrap_i64]; omega
        have hne := bneI ((s[k].toNat : Nat) : Int)
        have hk0 : (0 : Int) ≤ (k : Int) := by omega
        have hki : (k : Int) < (s.size : Int) := by omega
        have HSS : Hid (∀ W, Below wr.heap.size wr W → W.cell? ⟨kb, 0, none⟩ = some (.int .i64 b.next) ∧ W.cell? ⟨kb, 1, none⟩ = some (.slice A1 b.chs.length c1)) := Lib.hid fun W h => (HV.out.next h).1
        have hS := HSS.out
        go_upto_region 13 with fail
        go_region_held3 (fun W => W.cell? ⟨kb, 0, none⟩ = some (.int .i64 b.next) ∧ W.cell? ⟨kb, 1, none⟩ = some (.slice A1 b.chs.length c1)) (first | exact hS _ (Below.refl _ _).drew | exact HSA.out) (first | (go_at_call 20; refine HA2.out.mono ?_; rintro e wa ⟨rfl, hba⟩; have HBA := Lib.hid ((Below.refl wr.heap.size wr).drew.trans hba); have HSA := Lib.hid (HSS.out wa HBA.out); clear hba))
        all_goals (
          have HV2 := Lib.hid (HV.out.next HBA.out)
          have HY2 := Lib.hid (HY.out.next HBA.out)
          have HB2 := Lib.hid (HB.out.trans (HBA.out.mono HB.out.size))
          clear hcv hsum hne hS HSS HSA HA2 p0 p1)
        all_goals go_wp2
        all_goals exact ⟨⟨k + 1, hlt, by go_num, HV2.out, HY2.out, HB2.out⟩, by simp [intOf]; omega⟩
      · obtain rfl : k = s.size := by omega
        obtain ⟨y0, y1⟩ := HY.out.1
        obtain ⟨M, hmax⟩ : ∃ M : Int, (if m < 0 then 0 else m) = M := ⟨_, rfl⟩
        have hM : 0 ≤ M := by rw [← hmax]; split <;> omega
        have hMm : (max m 0).toNat = M.toNat := by rw [← hmax]; split <;> omega
        have hcn := HCN.out
        rw [hMm] at hcn
        have HRD2 := HRD
        have hss := HHS.out
        generalize rdyB b = r at *
        have hmin : (if (r : Int) < M then (r : Int) else M) = (s.size : Int) := by split <;> omega
        have hnx : nxo = b.next + (s.size : Int) := by have := HNX.out; omega
        have hq1 := beqI (s.size : Int)
        have hq2 := beqI nxo
        have HNQ : Hid (b.next + (s.size : Int) = nxo) := Lib.hid hnx.symm
        clear hcn hMm hM hss hnx HCN HHS HHB hlt hk HNX
        go_wp2_with fail
        refine (HRD2.out wr HV.out.2.1.chs).mono ?_
        rintro e wa ⟨rfl, hba⟩
        have HV2 := Lib.hid (HV.out.next hba)
        have HY2 := Lib.hid (HY.out.next hba)
        have HB2 := Lib.hid (HB.out.trans (hba.mono HB.out.size))
        clear hba p0 p1 y0 y1
        obtain ⟨p0, p1⟩ := HV2.out.1
        obtain ⟨y0, y1⟩ := HY2.out.1
        have hnq := HNQ.out
        go_wp2_with fail
        refine (HIY2.out _ _ wa HY2.out.2.1.chs).mono ?_
        rintro e wb ⟨rfl, hbb⟩
        have HB3 := Lib.hid (HB2.out.trans (hbb.mono HB2.out.size))
        clear hbb
        go_wp2
        go_ret
        exact ⟨rfl, HB3.out⟩
  · have hdk : decide (okB b) = false := decide_eq_false hok
    have HX2 := Lib.hid (HHX.out hok)
    rw [hdk]
    clear hok HHX HIY hdk HHS HHB
    have hE : s = ⟨#[]⟩ := HX2.out
    subst hE
    go_wp2
    go_ret
    exact ⟨rfl, B8.out⟩
end Go.Proofs.Ytmaaldmakgjplaa
