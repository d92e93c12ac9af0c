/-
  The law on buffers, walked.
-/
import Derived.Test.YtmaaldmakgjplaaLBufVar
import Derived.Test.YtmaaldmakgjplaaDraws6
import Derived.Test.YtmaaldmakgjplaaSBuf2
import Derived.Test.YtmaaldmakgjplaaSIns
import Derived.Test.YtmaaldmakgjplaaSRng7
import Derived.Test.YtmaaldmakgjplaaIIsR
import Derived.Test.YtmaaldmakgjplaaIIns4
import Derived.Test.YtmaaldmakgjplaaBig
import Derived.Test.YtmaaldmakgjplaaCodeRow
import Derived.Deep.CutBlock
namespace Go.Proofs.Ytmaaldmakgjplaa
open Go.RowKit Go.Deep Go.Proofs.Ytmaaldmakgjplaa.Num

/-- Two, three, four variables that hold buffers. -/
def Hv2 (w : World) (B1 g1 : Nat) (n1 : Int) (v1 : Value) (l1 : List Ch) (B2 g2 : Nat) (n2 : Int) (v2 : Value) (l2 : List Ch) (W : World) : Prop := VarB W B1 g1 n1 v1 l1 ∧ VarB W B2 g2 n2 v2 l2 ∧ Below w.heap.size w W
theorem Hv2.next {w W W1 : World} {B1 g1 B2 g2 : Nat} {n1 n2 : Int} {v1 v2 : Value} {l1 l2 : List Ch} (h : Hv2 w B1 g1 n1 v1 l1 B2 g2 n2 v2 l2 W) (hb : Below W.heap.size W W1) : Hv2 w B1 g1 n1 v1 l1 B2 g2 n2 v2 l2 W1 := ⟨h.1.next hb, h.2.1.next hb, h.2.2.trans (hb.mono h.2.2.size)⟩
def Hv3 (w : World) (B1 g1 : Nat) (n1 : Int) (v1 : Value) (l1 : List Ch) (B2 g2 : Nat) (n2 : Int) (v2 : Value) (l2 : List Ch) (B3 g3 : Nat) (n3 : Int) (v3 : Value) (l3 : List Ch) (W : World) : Prop := VarB W B1 g1 n1 v1 l1 ∧ VarB W B2 g2 n2 v2 l2 ∧ VarB W B3 g3 n3 v3 l3 ∧ Below w.heap.size w W
theorem Hv3.next {w W W1 : World} {B1 g1 B2 g2 B3 g3 : Nat} {n1 n2 n3 : Int} {v1 v2 v3 : Value} {l1 l2 l3 : List Ch} (h : Hv3 w B1 g1 n1 v1 l1 B2 g2 n2 v2 l2 B3 g3 n3 v3 l3 W) (hb : Below W.heap.size W W1) : Hv3 w B1 g1 n1 v1 l1 B2 g2 n2 v2 l2 B3 g3 n3 v3 l3 W1 := ⟨h.1.next hb, h.2.1.next hb, h.2.2.1.next hb, h.2.2.2.trans (hb.mono h.2.2.2.size)⟩
def Hv4 (w : World) (B1 g1 : Nat) (n1 : Int) (v1 : Value) (l1 : List Ch) (B2 g2 : Nat) (n2 : Int) (v2 : Value) (l2 : List Ch) (B3 g3 : Nat) (n3 : Int) (v3 : Value) (l3 : List Ch) (B4 g4 : Nat) (n4 : Int) (v4 : Value) (l4 : List Ch) (W : World) : Prop := VarB W B1 g1 n1 v1 l1 ∧ VarB W B2 g2 n2 v2 l2 ∧ VarB W B3 g3 n3 v3 l3 ∧ VarB W B4 g4 n4 v4 l4 ∧ Below w.heap.size w W
theorem Hv4.next {w W W1 : World} {B1 g1 B2 g2 B3 g3 B4 g4 : Nat} {n1 n2 n3 n4 : Int} {v1 v2 v3 v4 : Value} {l1 l2 l3 l4 : List Ch} (h : Hv4 w B1 g1 n1 v1 l1 B2 g2 n2 v2 l2 B3 g3 n3 v3 l3 B4 g4 n4 v4 l4 W) (hb : Below W.heap.size W W1) : Hv4 w B1 g1 n1 v1 l1 B2 g2 n2 v2 l2 B3 g3 n3 v3 l3 B4 g4 n4 v4 l4 W1 := ⟨h.1.next hb, h.2.1.next hb, h.2.2.1.next hb, h.2.2.2.1.next hb, h.2.2.2.2.trans (hb.mono h.2.2.2.2.size)⟩
theorem neI (x : Int) : (x != x) = false := by simp
theorem neBo (x : Bool) : (x != x) = false := by cases x <;> rfl
theorem eqBo (x : Bool) : (x == x) = true := by cases x <;> rfl
theorem eqI (x : Int) : (x == x) = true := by simp
theorem insB_inB {b : Bf} {o : Int} {d : ByteArray} (h : smallB b) (hd : d.size ≤ 100) : inB (insB b o d).chs := by
  by_cases hok : okB b
  · intro c hc
    have h1 := sumC_mem _ c hc
    have h2 := insB_sum b o d hok
    have h3 := h.2.1
    have h4 := okB_off (insB_ok b o d hok) c hc
    exact ⟨by unfold maxLen; omega, by omega, by omega⟩
  · rw [show insB b o d = b from if_neg (fun hc => hok hc.1)]
    exact smallB.inB h
theorem rgsB_len (b : Bf) : (rgsB b).length ≤ b.chs.length := by
  unfold rgsB
  split
  · rw [List.length_map]; exact Nat.le_refl _
  · exact Nat.zero_le _

set_option maxRecDepth 100000 in
set_option maxHeartbeats 8000000 in
/-- The law. -/
theorem law_Buffers (A : Option Addr) (len cap : Nat) (w : World) (hlen : len ≤ maxLen) (hcode : Code w w.heap.size A len) :
    Calls Try.prog 3 #[.slice A len cap] w fun e w' => e = .returned (.bool true) ∧ Below w.heap.size w w' := by
  by_cases hbig : 1048576 < len
  · go_enter Try.func3, Try.ntmps3
    go_wp2_with (go_at_call 13; refine (big_yes A len cap _ hbig hlen).mono ?_; rintro e w' ⟨rfl, rfl⟩)
    go_ret
    exact ⟨rfl, Below.refl _ _⟩
  have hsm : len ≤ 1048576 := by omega
  clear hbig
  have HC := Lib.hid hcode
  have HL := Lib.hid hlen
  clear hcode hlen
  go_enter Try.func3, Try.ntmps3
  go_wp2_with fail
  refine (big_no A len cap _ hsm).mono ?_
  rintro e w' ⟨rfl, rfl⟩
  go_wp2_with fail
  refine (draw_ins A len cap _ HL.out HC.out).mono ?_
  rintro e w1 ⟨b, v, o, dl, rfl, hsb, ho, hdl, hown, hb1⟩
  obtain ⟨A1, c1, rfl, hc1, _⟩ := hown.frs
  have V2 := Lib.hid (VarB.new b.next 26 hown.x hb1.size)
  have B2 := Lib.hid (hb1.alloc hb1.size (.cells #[.int .i64 b.next, .slice A1 b.chs.length c1] 26))
  have HSB := Lib.hid hsb
  have hds : (⟨dl.toArray⟩ : ByteArray).size ≤ 5 := by show dl.toArray.size ≤ 5; simpa using hdl
  generalize (⟨dl.toArray⟩ : ByteArray) = d at *
  have hbl := hsb.1
  have hbs := hsb.2.1
  have hol := insB_len2 b o d
  -- what the calls return
  have HII : Hid (∀ W, Chs W W.heap.size A1 b.chs → Calls Try.prog 15 #[bfV b.next (.slice A1 b.chs.length c1), .int .i64 o, .string d] W fun e w' => ∃ v, e = .returned (bfV b.next v) ∧ OwnX w' W.heap.size v (insB b o d).chs ∧ Below W.heap.size W w') := Lib.hid fun W h => iinsx b o d A1 c1 W.heap.size W (Nat.le_refl _) h (by omega) hc1 (smallB.inB HSB.out) HSB.out.2.2.2 (by omega)
  have HSI : Hid (∀ W, Chs W W.heap.size A1 b.chs → Calls Try.prog 16 #[bfV b.next (.slice A1 b.chs.length c1), .int .i64 o, .string d] W fun e w' => ∃ v, e = .returned (bfV b.next v) ∧ OwnC w' W.heap.size v (insB b o d).chs ∧ Below W.heap.size W w') := Lib.hid fun W h => sins b o d A1 c1 W.heap.size W (Nat.le_refl _) h (by omega) (smallB.inB HSB.out) HSB.out.2.2.2 ho (by omega)
  have HIB : Hid (∀ W, Chs W W.heap.size A1 b.chs → Calls Try.prog 18 #[bfV b.next (.slice A1 b.chs.length c1)] W fun e w' => e = .returned (.bool (decide (okB b))) ∧ Below W.heap.size W w') := Lib.hid fun W h => iisb b A1 c1 W.heap.size W (Nat.le_refl _) h (by omega) (smallB.inB HSB.out) HSB.out.2.2.2
  have HSB2 : Hid (∀ W, Chs W W.heap.size A1 b.chs → Calls Try.prog 19 #[bfV b.next (.slice A1 b.chs.length c1)] W fun e w' => e = .returned (.bool (decide (okB b))) ∧ Below W.heap.size W w') := Lib.hid fun W h => sisb b A1 c1 W.heap.size W (Nat.le_refl _) h (by omega) (smallB.inB HSB.out) HSB.out.2.2.2
  have HAT : Hid (∀ (n : Int) W, -9223372036854775808 ≤ n ∧ n ≤ 9223372036854775807 → Chs W W.heap.size A1 b.chs → Calls Try.prog 20 #[bfV b.next (.slice A1 b.chs.length c1), .int .i64 n] W fun e w' => e = .returned (.int .i64 (byteB b.chs n)) ∧ Below W.heap.size W w') := Lib.hid fun n W h0 h => sbyteat b.next b.chs n A1 c1 W.heap.size W (Nat.le_refl _) h (by omega) (smallB.inB HSB.out) h0
  have HEB : Hid (∀ W, Chs W W.heap.size A1 b.chs → Calls Try.prog 24 #[bfV b.next (.slice A1 b.chs.length c1)] W fun e w' => e = .returned (.int .i64 (endB b)) ∧ Below W.heap.size W w') := Lib.hid fun W h => iendof b A1 c1 W.heap.size W (Nat.le_refl _) h (by omega) (smallB.inB HSB.out) HSB.out.2.2.2
  have HNX := insB_next b o d
  have HYQ : Hid (∀ (X Y : Option Addr) (cx cy : Nat) W, Chs W W.heap.size X (insB b o d).chs → Chs W W.heap.size Y (insB b o d).chs → Calls Try.prog 17 #[bfV b.next (.slice X (insB b o d).chs.length cx), bfV b.next (.slice Y (insB b o d).chs.length cy)] W fun e w' => e = .returned (.bool true) ∧ Below W.heap.size W w') := Lib.hid fun X Y cx cy W h h' => by
    have h2 := sequal b.next b.next (insB b o d).chs (insB b o d).chs X Y cx cy W.heap.size W (Nat.le_refl _) h h' (by omega)
    rw [decide_eq_true ⟨rfl, rfl⟩] at h2
    exact h2
  have HYI : Hid (okB b → ∀ (Y : Option Addr) (cy : Nat) W, Chs W W.heap.size Y (insB b o d).chs → Calls Try.prog 18 #[bfV b.next (.slice Y (insB b o d).chs.length cy)] W fun e w' => e = .returned (.bool true) ∧ Below W.heap.size W w') := Lib.hid fun hk Y cy W h => by
    have h2 := iisb (insB b o d) Y cy W.heap.size W (Nat.le_refl _) h (by omega) (insB_inB HSB.out (by omega)) (by rw [HNX]; exact HSB.out.2.2.2)
    rw [HNX, decide_eq_true (insB_ok b o d hk)] at h2
    exact h2
  have HYA : Hid (∀ (n : Int) (Y : Option Addr) (cy : Nat) W, -9223372036854775808 ≤ n ∧ n ≤ 9223372036854775807 → Chs W W.heap.size Y (insB b o d).chs → Calls Try.prog 21 #[bfV b.next (.slice Y (insB b o d).chs.length cy), .int .i64 n] W fun e w' => e = .returned (.int .i64 (byteB (insB b o d).chs n)) ∧ Below W.heap.size W w') := Lib.hid fun n Y cy W h0 h => ibyteat b.next (insB b o d).chs n Y cy W.heap.size W (Nat.le_refl _) h (by omega) (insB_inB HSB.out (by omega)) h0
  have HYR : Hid (∀ (Y : Option Addr) (cy : Nat) W, Chs W W.heap.size Y (insB b o d).chs → Calls Try.prog 23 #[bfV b.next (.slice Y (insB b o d).chs.length cy)] W fun e w' => ∃ v, e = .returned v ∧ OwnR w' W.heap.size v (rgsB (insB b o d)) ∧ Below W.heap.size W w') := Lib.hid fun Y cy W h => by
    have h2 := ibrng (insB b o d) Y cy W.heap.size W (Nat.le_refl _) h (by omega) (insB_inB HSB.out (by omega)) (by rw [HNX]; exact HSB.out.2.2.2)
    rw [HNX] at h2
    exact h2
  have HYE : Hid (∀ (Y : Option Addr) (cy : Nat) W, Chs W W.heap.size Y (insB b o d).chs → Calls Try.prog 24 #[bfV b.next (.slice Y (insB b o d).chs.length cy)] W fun e w' => e = .returned (.int .i64 (endB (insB b o d))) ∧ Below W.heap.size W w') := Lib.hid fun Y cy W h => by
    have h2 := iendof (insB b o d) Y cy W.heap.size W (Nat.le_refl _) h (by omega) (insB_inB HSB.out (by omega)) (by rw [HNX]; exact HSB.out.2.2.2)
    rw [HNX] at h2
    exact h2
  have HIR : Hid (∀ (Y : Option Addr) (cy : Nat) W, Rgs W W.heap.size Y (rgsB (insB b o d)) → Calls Try.prog 22 #[.slice Y (rgsB (insB b o d)).length cy] W fun e w' => e = .returned (.bool true) ∧ Below W.heap.size W w') := Lib.hid fun Y cy W h => by
    have h2 := iisr (rgsB (insB b o d)) Y cy W.heap.size W (Nat.le_refl _) h (by have := rgsB_len (insB b o d); omega)
    rw [decide_eq_true (rgsB_ok _)] at h2
    exact h2
  have HEE : Hid (okB b → endB b ≤ endB (insB b o d)) := Lib.hid end_ins
  have HWA : Hid (okB b → ∀ n : Int, n ≤ 4611686018427387000 → byteB (insB b o d).chs n = if byteB b.chs n < 0 ∧ b.next ≤ n ∧ 0 ≤ o ∧ o ≤ n ∧ n < o + d.size then bytD d (n - o).toNat else byteB b.chs n) := Lib.hid fun hk n hn => ins_want hk hn (by omega)
  have HRN := Lib.hid (rgsB_len (insB b o d))
  have hol2 : (insB b o d).chs.length ≤ 11 := by omega
  clear hb1 hown hsb hbs hol hdl HSB HNX
  generalize rgsB (insB b o d) = rgs at *
  generalize endB (insB b o d) = eY at *
  generalize (insB b o d).chs = L at *
  go_upto_region 4 with fail
  generalize w1.alloc (.cells #[.int .i64 b.next, .slice A1 b.chs.length c1] 26) = w2 at *
  generalize w1.heap.size = g1 at *
  obtain ⟨nx, l⟩ := b
  dsimp only at *
  obtain ⟨p0, p1⟩ := V2.out.1
  go_wp2_with fail
  refine (HII.out w2 V2.out.2.1.chs).mono ?_
  rintro e w3 ⟨v3, rfl, ho3, hb3⟩
  obtain ⟨A2, c2, rfl, _, _⟩ := ho3.frs
  have X4 := Lib.hid (VarB.new nx 26 ho3 hb3.size)
  have V4 := Lib.hid ((V2.out.next hb3).alloc (.cells #[.int .i64 nx, .slice A2 L.length c2] 26))
  have B4 := Lib.hid ((B2.out.trans (hb3.mono B2.out.size)).alloc (Nat.le_trans B2.out.size hb3.size) (.cells #[.int .i64 nx, .slice A2 L.length c2] 26))
  clear ho3 hb3 V2 B2 p0 p1 HII
  go_upto_region 5 with fail
  generalize w3.alloc (.cells #[.int .i64 nx, .slice A2 L.length c2] 26) = w4 at *
  generalize w3.heap.size = g2 at *
  generalize w2.heap.size = B2 at *
  obtain ⟨p0, p1⟩ := V4.out.1
  go_wp2_with fail
  refine (HSI.out w4 V4.out.2.1.chs).mono ?_
  rintro e w5 ⟨v5, rfl, ho5, hb5⟩
  obtain ⟨A3, c3, rfl, _, _⟩ := ho5.frs
  have Y6 := Lib.hid (VarB.new nx 26 ho5.x hb5.size)
  have V6 := Lib.hid ((V4.out.next hb5).alloc (.cells #[.int .i64 nx, .slice A3 L.length c3] 26))
  have X6 := Lib.hid ((X4.out.next hb5).alloc (.cells #[.int .i64 nx, .slice A3 L.length c3] 26))
  have B6 := Lib.hid ((B4.out.trans (hb5.mono B4.out.size)).alloc (Nat.le_trans B4.out.size hb5.size) (.cells #[.int .i64 nx, .slice A3 L.length c3] 26))
  clear ho5 hb5 V4 X4 B4 p0 p1 HSI
  go_upto_region 6 with fail
  generalize w5.alloc (.cells #[.int .i64 nx, .slice A3 L.length c3] 26) = w6 at *
  generalize w5.heap.size = g3 at *
  generalize w4.heap.size = B3 at *
  have HH0 : Hid (Hv3 w w.heap.size g1 nx (.slice A1 l.length c1) l B2 g2 nx (.slice A2 L.length c2) L B3 g3 nx (.slice A3 L.length c3) L w6) := Lib.hid ⟨V6.out, X6.out, Y6.out, B6.out⟩
  clear V6 X6 Y6 B6
  obtain ⟨bo, hbo⟩ : ∃ bo : Bool, decide (okB ⟨nx, l⟩) = bo := ⟨_, rfl⟩
  have HBO := Lib.hid hbo
  rw [hbo] at HIB HSB2
  clear hbo
  go_cut [41] (fun c wx => c = .bool false ∧ Hv3 w w.heap.size g1 nx (.slice A1 l.length c1) l B2 g2 nx (.slice A2 L.length c2) L B3 g3 nx (.slice A3 L.length c3) L wx)
  case first =>
    have HH := Lib.hid (HH0.out.next (Below.refl _ _).drew)
    have hnb := neBo bo
    clear HH0 HAT HEB HYI HYA HYR HYE HIR HEE HWA
    refine wp_region_held_drew (S := Hv3 w w.heap.size g1 nx (.slice A1 l.length c1) l B2 g2 nx (.slice A2 L.length c2) L B3 g3 nx (.slice A3 L.length c3) L) (by kernel_rfl) HH.out (fun hHeld => ?_)
    refine wpAnyH_take (i := 0) (v := ?_) rfl (by kernel_rfl) (by kernel_rfl) (by kernel_rfl) (fun _ _ _ h => h) (Or.inl ⟨by rfl, ?_⟩) hHeld ?_
    rotate_left
    · (intro wx hSx; obtain ⟨⟨a0, a1⟩, ⟨e0, e1⟩, ⟨f0, f1⟩, _⟩ : (_ ∧ _) ∧ (_ ∧ _) ∧ (_ ∧ _) ∧ True := ⟨hSx.1.1, hSx.2.1.1, hSx.2.2.1.1, trivial⟩; go_simp; (try with_reducible rfl))
    (try simp only [Act.put, List.getElem_toArray, List.getElem_cons_zero, List.setIfInBounds_toArray, List.set_cons_succ, List.set_cons_zero])
    refine wpAnyH_take (i := 1) (v := ?_) rfl (by kernel_rfl) (by kernel_rfl) (by kernel_rfl) (fun _ _ _ h => h) (Or.inl ⟨by rfl, ?_⟩) hHeld ?_
    rotate_left
    · (intro wx hSx; obtain ⟨⟨a0, a1⟩, ⟨e0, e1⟩, ⟨f0, f1⟩, _⟩ : (_ ∧ _) ∧ (_ ∧ _) ∧ (_ ∧ _) ∧ True := ⟨hSx.1.1, hSx.2.1.1, hSx.2.2.1.1, trivial⟩; go_simp; (try with_reducible rfl))
    (try simp only [Act.put, List.getElem_toArray, List.getElem_cons_succ, List.getElem_cons_zero, List.setIfInBounds_toArray, List.set_cons_succ, List.set_cons_zero])
    refine wpAnyH_ready (rs := [2]) (by kernel_rfl) (by simp) ?_
    refine AllReadyH.cons rfl (fun K hK => ?_) AllReadyH.nil
    rw [if_pos (by rfl)]
    go_simp
    refine (HYQ.out _ _ _ _ _ HH.out.2.1.2.1.chs HH.out.2.2.1.2.1.chs).mono ?_
    rintro e w1 ⟨rfl, hb1⟩
    have HH := Lib.hid (HH.out.next hb1)
    (try simp only [])
    refine hK.out _ _ HH.out (fun hHeld => ?_)
    clear hb1
    clear hK K
    (try simp only [Act.put, List.getElem_toArray, List.getElem_cons_succ, List.getElem_cons_zero, List.setIfInBounds_toArray, List.set_cons_succ, List.set_cons_zero])
    refine wpAnyH_take (i := 3) (v := ?_) rfl (by kernel_rfl) (by kernel_rfl) (by kernel_rfl) (fun _ _ _ h => h) (Or.inl ⟨by rfl, ?_⟩) hHeld ?_
    rotate_left
    · (intro wx hSx; obtain ⟨⟨a0, a1⟩, ⟨e0, e1⟩, ⟨f0, f1⟩, _⟩ : (_ ∧ _) ∧ (_ ∧ _) ∧ (_ ∧ _) ∧ True := ⟨hSx.1.1, hSx.2.1.1, hSx.2.2.1.1, trivial⟩; go_simp; (try with_reducible rfl))
    (try simp only [Act.put, List.getElem_toArray, List.getElem_cons_succ, List.getElem_cons_zero, List.setIfInBounds_toArray, List.set_cons_succ, List.set_cons_zero])
    refine wpAnyH_take (i := 4) (v := ?_) rfl (by kernel_rfl) (by kernel_rfl) (by kernel_rfl) (fun _ _ _ h => h) (Or.inl ⟨by rfl, ?_⟩) hHeld ?_
    rotate_left
    · (intro wx hSx; obtain ⟨⟨a0, a1⟩, ⟨e0, e1⟩, ⟨f0, f1⟩, _⟩ : (_ ∧ _) ∧ (_ ∧ _) ∧ (_ ∧ _) ∧ True := ⟨hSx.1.1, hSx.2.1.1, hSx.2.2.1.1, trivial⟩; go_simp; (try with_reducible rfl))
    (try simp only [Act.put, List.getElem_toArray, List.getElem_cons_succ, List.getElem_cons_zero, List.setIfInBounds_toArray, List.set_cons_succ, List.set_cons_zero])
    refine wpAnyH_take (i := 5) (v := ?_) rfl (by kernel_rfl) (by kernel_rfl) (by kernel_rfl) (fun _ _ _ h => h) (Or.inl ⟨by rfl, ?_⟩) hHeld ?_
    rotate_left
    · (intro wx hSx; obtain ⟨⟨a0, a1⟩, ⟨e0, e1⟩, ⟨f0, f1⟩, _⟩ : (_ ∧ _) ∧ (_ ∧ _) ∧ (_ ∧ _) ∧ True := ⟨hSx.1.1, hSx.2.1.1, hSx.2.2.1.1, trivial⟩; go_simp; (try with_reducible rfl))
    (try simp only [Act.put, List.getElem_toArray, List.getElem_cons_succ, List.getElem_cons_zero, List.setIfInBounds_toArray, List.set_cons_succ, List.set_cons_zero])
    refine wpAnyH_take (i := 7) (v := ?_) rfl (by kernel_rfl) (by kernel_rfl) (by kernel_rfl) (fun _ _ _ h => h) (Or.inl ⟨by rfl, ?_⟩) hHeld ?_
    rotate_left
    · (intro wx hSx; obtain ⟨⟨a0, a1⟩, ⟨e0, e1⟩, ⟨f0, f1⟩, _⟩ : (_ ∧ _) ∧ (_ ∧ _) ∧ (_ ∧ _) ∧ True := ⟨hSx.1.1, hSx.2.1.1, hSx.2.2.1.1, trivial⟩; go_simp; (try with_reducible rfl))
    (try simp only [Act.put, List.getElem_toArray, List.getElem_cons_succ, List.getElem_cons_zero, List.setIfInBounds_toArray, List.set_cons_succ, List.set_cons_zero])
    refine wpAnyH_ready (rs := [6]) (by kernel_rfl) (by simp) ?_
    refine AllReadyH.cons rfl (fun K hK => ?_) AllReadyH.nil
    rw [if_pos (by rfl)]
    go_simp
    refine (HIB.out _ HH.out.1.2.1.chs).mono ?_
    rintro e w1 ⟨rfl, hb1⟩
    have HH := Lib.hid (HH.out.next hb1)
    (try simp only [])
    refine hK.out _ _ HH.out (fun hHeld => ?_)
    clear hb1
    clear hK K
    (try simp only [Act.put, List.getElem_toArray, List.getElem_cons_succ, List.getElem_cons_zero, List.setIfInBounds_toArray, List.set_cons_succ, List.set_cons_zero])
    refine wpAnyH_ready (rs := [8]) (by kernel_rfl) (by simp) ?_
    refine AllReadyH.cons rfl (fun K hK => ?_) AllReadyH.nil
    rw [if_pos (by rfl)]
    go_simp
    refine (HSB2.out _ HH.out.1.2.1.chs).mono ?_
    rintro e w1 ⟨rfl, hb1⟩
    have HH := Lib.hid (HH.out.next hb1)
    (try simp only [])
    refine hK.out _ _ HH.out (fun hHeld => ?_)
    clear hb1
    clear hK K
    (try simp only [Act.put, List.getElem_toArray, List.getElem_cons_succ, List.getElem_cons_zero, List.setIfInBounds_toArray, List.set_cons_succ, List.set_cons_zero])
    refine wpAnyH_take (i := 9) (v := ?_) rfl (by kernel_rfl) (by kernel_rfl) (by kernel_rfl) (fun _ _ _ h => h) (Or.inl ⟨by rfl, ?_⟩) hHeld ?_
    rotate_left
    · (intro wx hSx; obtain ⟨⟨a0, a1⟩, ⟨e0, e1⟩, ⟨f0, f1⟩, _⟩ : (_ ∧ _) ∧ (_ ∧ _) ∧ (_ ∧ _) ∧ True := ⟨hSx.1.1, hSx.2.1.1, hSx.2.2.1.1, trivial⟩; go_simp; (try with_reducible rfl))
    (try simp only [Act.put, List.getElem_toArray, List.getElem_cons_succ, List.getElem_cons_zero, List.setIfInBounds_toArray, List.set_cons_succ, List.set_cons_zero])
    refine wpAnyH_take (i := 10) (v := ?_) rfl (by kernel_rfl) (by kernel_rfl) (by kernel_rfl) (fun _ _ _ h => h) (Or.inl ⟨by rfl, ?_⟩) hHeld ?_
    rotate_left
    · (intro wx hSx; obtain ⟨⟨a0, a1⟩, ⟨e0, e1⟩, ⟨f0, f1⟩, _⟩ : (_ ∧ _) ∧ (_ ∧ _) ∧ (_ ∧ _) ∧ True := ⟨hSx.1.1, hSx.2.1.1, hSx.2.2.1.1, trivial⟩; go_simp; (try with_reducible rfl))
    (try simp only [Act.put, List.getElem_toArray, List.getElem_cons_succ, List.getElem_cons_zero, List.setIfInBounds_toArray, List.set_cons_succ, List.set_cons_zero])
    refine wpAnyH_done (by kernel_rfl) ?_ _
    clear hHeld
    go_wp2
    go_meet
    exact ⟨rfl, HH.out⟩
  case rest =>
    obtain ⟨rfl, hh⟩ := hcut
    have HH1 : Hid (Hv2 w w.heap.size g1 nx (.slice A1 l.length c1) l B3 g3 nx (.slice A3 L.length c3) L wc) := Lib.hid ⟨hh.1, hh.2.2.1, hh.2.2.2⟩
    clear hh HH0 HYQ HIB
    go_upto_block 0 with fail
    go_cut [] (fun wx => Hv2 w w.heap.size g1 nx (.slice A1 l.length c1) l B3 g3 nx (.slice A3 L.length c3) L wx)
    case first =>
      clear HEB HYI HYR HYE HIR HEE
      go_wp2_with fail
      go_loopw [8] (fun i wr => ∃ n : Int, -1 ≤ n ∧ n ≤ 40 ∧ i = .int .i64 n ∧ Hv2 w w.heap.size g1 nx (.slice A1 l.length c1) l B3 g3 nx (.slice A3 L.length c3) L wr) (fun i _ => (40 - intOf i).toNat)
      case atStart => exact ⟨-1, by omega, by omega, rfl, HH1.out⟩
      case round =>
        obtain ⟨n, hn0, hn1, rfl, hh⟩ := hrel
        have HW := Lib.hid hh
        clear hh HH1
        obtain ⟨a0, a1⟩ := HW.out.1.1
        by_cases hlt : n < 40
        · have hdn : decide (n < 40) = true := decide_eq_true hlt
          go_wp2_with fail
          refine (HSB2.out wr HW.out.1.2.1.chs).mono ?_
          rintro e wa ⟨rfl, hba⟩
          have HA := Lib.hid (HW.out.next hba)
          clear hba a0 a1 HW
          cases bo with
          | false =>
            go_wp2
            go_meet
            exact HA.out
          | true =>
            have hok : okB ⟨nx, l⟩ := of_decide_eq_true HBO.out
            have hwa := HWA.out hok n (by omega)
            obtain ⟨a0, a1⟩ := HA.out.1.1
            go_wp2_with fail
            refine (HAT.out n wa (by omega) HA.out.1.2.1.chs).mono ?_
            rintro e wb ⟨rfl, hbb⟩
            have HB := Lib.hid (HA.out.next hbb)
            clear hbb a0 a1 hok HA
            obtain ⟨a0, a1⟩ := HB.out.1.1
            obtain ⟨f0, f1⟩ := HB.out.2.1.1
            have HYA2 : Hid (∀ W, Chs W W.heap.size A3 L → Calls Try.prog 21 #[bfV nx (.slice A3 L.length c3), .int .i64 n] W fun e w' => e = .returned (.int .i64 (byteB L n)) ∧ Below W.heap.size W w') := Lib.hid fun W h => HYA.out n A3 c3 W (by omega) h
            rw [hwa] at HYA2
            clear hwa HYA HWA HAT
            generalize byteB l n = w0 at *
            have hnn := neI w0
            have hn2 : -1 ≤ n + 1 := by omega
            have hn3 : n + 1 ≤ 40 := by omega
            by_cases h1 : w0 < 0
            · by_cases h2 : nx ≤ n
              · by_cases h3 : 0 ≤ o
                · by_cases h4 : o ≤ n
                  · by_cases h5 : n < o + (d.size : Int)
                    · have hd1 : decide (w0 < 0) = true := decide_eq_true h1
                      have hd2 : decide (nx ≤ n) = true := decide_eq_true h2
                      have hd3 : decide (0 ≤ o) = true := decide_eq_true h3
                      have hd4 : decide (o ≤ n) = true := decide_eq_true h4
                      have hd5 : decide (n < o + (d.size : Int)) = true := decide_eq_true h5
                      obtain ⟨k, hk⟩ : ∃ k : Nat, n - o = (k : Int) := ⟨(n - o).toNat, by omega⟩
                      have hks : k < d.size := by omega
                      rw [if_pos ⟨h1, h2, h3, h4, h5⟩, show (n - o).toNat = k by omega, bytD_at d k hks] at HYA2
                      have hki : (k : Int) < (d.size : Int) := by omega
                      have hk0 : (0 : Int) ≤ (k : Int) := by omega
                      have hcv : IntKind.i64.wrap ((d[k].toNat : Nat) : Int) = ((d[k].toNat : Nat) : Int) := by have := d[k].toNat_lt; rw [IntKind.wrap_i64]; omega
                      have hne := neI ((d[k].toNat : Nat) : Int)
                      have hwk : IntKind.i64.wrap (n - o) = (k : Int) := by rw [hk, IntKind.wrap_i64]; omega
                      have hsum : IntKind.i64.wrap (o + (d.size : Int)) = o + (d.size : Int) := by rw [IntKind.wrap_i64]; omega
                      clear h1 h2 h3 h4 h5 hk
                      go_wp2_with fail
                      refine (HYA2.out wb HB.out.2.1.2.1.chs).mono ?_
                      rintro e wd ⟨rfl, hbd⟩
                      have HD := Lib.hid (HB.out.next hbd)
                      clear hbd a0 a1 f0 f1
                      go_wp2
                      clear hsum hwk hcv
                      go_roundw
                      case rel => exact ⟨n + 1, hn2, hn3, by go_num, HD.out⟩
                      case measure => simp [intOf]; omega
                    · have hd1 : decide (w0 < 0) = true := decide_eq_true h1
                      have hd2 : decide (nx ≤ n) = true := decide_eq_true h2
                      have hd3 : decide (0 ≤ o) = true := decide_eq_true h3
                      have hd4 : decide (o ≤ n) = true := decide_eq_true h4
                      have hd5 : decide (n < o + (d.size : Int)) = false := decide_eq_false h5
                      rw [if_neg (fun h => h5 h.2.2.2.2)] at HYA2
                      have hsum : IntKind.i64.wrap (o + (d.size : Int)) = o + (d.size : Int) := by rw [IntKind.wrap_i64]; omega
                      clear h1 h2 h3 h4 h5
                      go_wp2_with fail
                      refine (HYA2.out wb HB.out.2.1.2.1.chs).mono ?_
                      rintro e wd ⟨rfl, hbd⟩
                      have HD := Lib.hid (HB.out.next hbd)
                      clear hbd a0 a1 f0 f1 hsum
                      go_wp2
                      go_roundw
                      case rel => exact ⟨n + 1, hn2, hn3, by go_num, HD.out⟩
                      case measure => simp [intOf]; omega
                  · have hd1 : decide (w0 < 0) = true := decide_eq_true h1
                    have hd2 : decide (nx ≤ n) = true := decide_eq_true h2
                    have hd3 : decide (0 ≤ o) = true := decide_eq_true h3
                    have hd4 : decide (o ≤ n) = false := decide_eq_false h4
                    rw [if_neg (fun h => h4 h.2.2.2.1)] at HYA2
                    clear h1 h2 h3 h4
                    go_wp2_with fail
                    refine (HYA2.out wb HB.out.2.1.2.1.chs).mono ?_
                    rintro e wd ⟨rfl, hbd⟩
                    have HD := Lib.hid (HB.out.next hbd)
                    clear hbd a0 a1 f0 f1
                    go_wp2
                    go_roundw
                    case rel => exact ⟨n + 1, hn2, hn3, by go_num, HD.out⟩
                    case measure => simp [intOf]; omega
                · have hd1 : decide (w0 < 0) = true := decide_eq_true h1
                  have hd2 : decide (nx ≤ n) = true := decide_eq_true h2
                  have hd3 : decide (0 ≤ o) = false := decide_eq_false h3
                  rw [if_neg (fun h => h3 h.2.2.1)] at HYA2
                  clear h1 h2 h3
                  go_wp2_with fail
                  refine (HYA2.out wb HB.out.2.1.2.1.chs).mono ?_
                  rintro e wd ⟨rfl, hbd⟩
                  have HD := Lib.hid (HB.out.next hbd)
                  clear hbd a0 a1 f0 f1
                  go_wp2
                  go_roundw
                  case rel => exact ⟨n + 1, hn2, hn3, by go_num, HD.out⟩
                  case measure => simp [intOf]; omega
              · have hd1 : decide (w0 < 0) = true := decide_eq_true h1
                have hd2 : decide (nx ≤ n) = false := decide_eq_false h2
                rw [if_neg (fun h => h2 h.2.1)] at HYA2
                clear h1 h2
                go_wp2_with fail
                refine (HYA2.out wb HB.out.2.1.2.1.chs).mono ?_
                rintro e wd ⟨rfl, hbd⟩
                have HD := Lib.hid (HB.out.next hbd)
                clear hbd a0 a1 f0 f1
                go_wp2
                go_roundw
                case rel => exact ⟨n + 1, hn2, hn3, by go_num, HD.out⟩
                case measure => simp [intOf]; omega
            · have hd1 : decide (w0 < 0) = false := decide_eq_false h1
              rw [if_neg (fun h => h1 h.1)] at HYA2
              clear h1
              go_wp2_with fail
              refine (HYA2.out wb HB.out.2.1.2.1.chs).mono ?_
              rintro e wd ⟨rfl, hbd⟩
              have HD := Lib.hid (HB.out.next hbd)
              clear hbd a0 a1 f0 f1
              go_wp2
              go_roundw
              case rel => exact ⟨n + 1, hn2, hn3, by go_num, HD.out⟩
              case measure => simp [intOf]; omega
        · have hdn : decide (n < 40) = false := decide_eq_false hlt
          go_wp2
          go_meet
          exact HW.out
    case rest =>
      have HH2 := Lib.hid hcut
      clear hcut HAT HYA HWA HH1
      go_upto_region 16 with fail
      go_cut [108] (fun c wx => c = .bool false ∧ Below w.heap.size w wx)
      case first =>
        have HH := Lib.hid (HH2.out.next (Below.refl _ _).drew)
        clear HH2
        cases bo with
        | false =>
          refine wp_region_held_drew (S := Hv2 w w.heap.size g1 nx (.slice A1 l.length c1) l B3 g3 nx (.slice A3 L.length c3) L) (by kernel_rfl) HH.out (fun hHeld => ?_)
          refine wpAnyH_take (i := 0) (v := ?_) rfl (by kernel_rfl) (by kernel_rfl) (by kernel_rfl) (fun _ _ _ h => h) (Or.inl ⟨by rfl, ?_⟩) hHeld ?_
          rotate_left
          · (intro wx hSx; obtain ⟨⟨a0, a1⟩, ⟨f0, f1⟩, _⟩ : (_ ∧ _) ∧ (_ ∧ _) ∧ True := ⟨hSx.1.1, hSx.2.1.1, trivial⟩; go_simp; (try with_reducible rfl))
          (try simp only [Act.put, List.getElem_toArray, List.getElem_cons_zero, List.setIfInBounds_toArray, List.set_cons_succ, List.set_cons_zero])
          refine wpAnyH_ready (rs := [1]) (by kernel_rfl) (by simp) ?_
          refine AllReadyH.cons rfl (fun K hK => ?_) AllReadyH.nil
          rw [if_pos (by rfl)]
          go_simp
          refine (HSB2.out _ HH.out.1.2.1.chs).mono ?_
          rintro e w1 ⟨rfl, hb1⟩
          have HH := Lib.hid (HH.out.next hb1)
          (try simp only [])
          refine hK.out _ _ HH.out (fun hHeld => ?_)
          clear hb1
          clear hK K
          (try simp only [Act.put, List.getElem_toArray, List.getElem_cons_succ, List.getElem_cons_zero, List.setIfInBounds_toArray, List.set_cons_succ, List.set_cons_zero])
          refine wpAnyH_take (i := 2) (v := ?_) rfl (by kernel_rfl) (by kernel_rfl) (by kernel_rfl) (fun _ _ _ h => h) (Or.inl ⟨by rfl, ?_⟩) hHeld ?_
          rotate_left
          · (intro wx hSx; obtain ⟨⟨a0, a1⟩, ⟨f0, f1⟩, _⟩ : (_ ∧ _) ∧ (_ ∧ _) ∧ True := ⟨hSx.1.1, hSx.2.1.1, trivial⟩; go_simp; (try with_reducible rfl))
          (try simp only [Act.put, List.getElem_toArray, List.getElem_cons_succ, List.getElem_cons_zero, List.setIfInBounds_toArray, List.set_cons_succ, List.set_cons_zero])
          refine wpAnyH_take (i := 3) (v := undef) rfl (by kernel_rfl) (by kernel_rfl) (by kernel_rfl) (fun _ _ _ h => h) (Or.inr ⟨by rfl, rfl⟩) hHeld ?_
          (try simp only [Act.put, List.getElem_toArray, List.getElem_cons_succ, List.getElem_cons_zero, List.setIfInBounds_toArray, List.set_cons_succ, List.set_cons_zero])
          refine wpAnyH_take (i := 4) (v := undef) rfl (by kernel_rfl) (by kernel_rfl) (by kernel_rfl) (fun _ _ _ h => h) (Or.inr ⟨by rfl, rfl⟩) hHeld ?_
          (try simp only [Act.put, List.getElem_toArray, List.getElem_cons_succ, List.getElem_cons_zero, List.setIfInBounds_toArray, List.set_cons_succ, List.set_cons_zero])
          refine wpAnyH_take (i := 5) (v := undef) rfl (by kernel_rfl) (by kernel_rfl) (by kernel_rfl) (fun _ _ _ h => h) (Or.inr ⟨by rfl, rfl⟩) hHeld ?_
          (try simp only [Act.put, List.getElem_toArray, List.getElem_cons_succ, List.getElem_cons_zero, List.setIfInBounds_toArray, List.set_cons_succ, List.set_cons_zero])
          refine wpAnyH_take (i := 6) (v := undef) rfl (by kernel_rfl) (by kernel_rfl) (by kernel_rfl) (fun _ _ _ h => h) (Or.inr ⟨by rfl, rfl⟩) hHeld ?_
          (try simp only [Act.put, List.getElem_toArray, List.getElem_cons_succ, List.getElem_cons_zero, List.setIfInBounds_toArray, List.set_cons_succ, List.set_cons_zero])
          refine wpAnyH_take (i := 7) (v := undef) rfl (by kernel_rfl) (by kernel_rfl) (by kernel_rfl) (fun _ _ _ h => h) (Or.inr ⟨by rfl, rfl⟩) hHeld ?_
          (try simp only [Act.put, List.getElem_toArray, List.getElem_cons_succ, List.getElem_cons_zero, List.setIfInBounds_toArray, List.set_cons_succ, List.set_cons_zero])
          refine wpAnyH_take (i := 8) (v := undef) rfl (by kernel_rfl) (by kernel_rfl) (by kernel_rfl) (fun _ _ _ h => h) (Or.inr ⟨by rfl, rfl⟩) hHeld ?_
          (try simp only [Act.put, List.getElem_toArray, List.getElem_cons_succ, List.getElem_cons_zero, List.setIfInBounds_toArray, List.set_cons_succ, List.set_cons_zero])
          refine wpAnyH_take (i := 9) (v := undef) rfl (by kernel_rfl) (by kernel_rfl) (by kernel_rfl) (fun _ _ _ h => h) (Or.inr ⟨by rfl, rfl⟩) hHeld ?_
          (try simp only [Act.put, List.getElem_toArray, List.getElem_cons_succ, List.getElem_cons_zero, List.setIfInBounds_toArray, List.set_cons_succ, List.set_cons_zero])
          refine wpAnyH_take (i := 10) (v := undef) rfl (by kernel_rfl) (by kernel_rfl) (by kernel_rfl) (fun _ _ _ h => h) (Or.inr ⟨by rfl, rfl⟩) hHeld ?_
          (try simp only [Act.put, List.getElem_toArray, List.getElem_cons_succ, List.getElem_cons_zero, List.setIfInBounds_toArray, List.set_cons_succ, List.set_cons_zero])
          refine wpAnyH_take (i := 11) (v := undef) rfl (by kernel_rfl) (by kernel_rfl) (by kernel_rfl) (fun _ _ _ h => h) (Or.inr ⟨by rfl, rfl⟩) hHeld ?_
          (try simp only [Act.put, List.getElem_toArray, List.getElem_cons_succ, List.getElem_cons_zero, List.setIfInBounds_toArray, List.set_cons_succ, List.set_cons_zero])
          refine wpAnyH_take (i := 12) (v := undef) rfl (by kernel_rfl) (by kernel_rfl) (by kernel_rfl) (fun _ _ _ h => h) (Or.inr ⟨by rfl, rfl⟩) hHeld ?_
          (try simp only [Act.put, List.getElem_toArray, List.getElem_cons_succ, List.getElem_cons_zero, List.setIfInBounds_toArray, List.set_cons_succ, List.set_cons_zero])
          refine wpAnyH_take (i := 13) (v := undef) rfl (by kernel_rfl) (by kernel_rfl) (by kernel_rfl) (fun _ _ _ h => h) (Or.inr ⟨by rfl, rfl⟩) hHeld ?_
          (try simp only [Act.put, List.getElem_toArray, List.getElem_cons_succ, List.getElem_cons_zero, List.setIfInBounds_toArray, List.set_cons_succ, List.set_cons_zero])
          refine wpAnyH_take (i := 14) (v := undef) rfl (by kernel_rfl) (by kernel_rfl) (by kernel_rfl) (fun _ _ _ h => h) (Or.inr ⟨by rfl, rfl⟩) hHeld ?_
          (try simp only [Act.put, List.getElem_toArray, List.getElem_cons_succ, List.getElem_cons_zero, List.setIfInBounds_toArray, List.set_cons_succ, List.set_cons_zero])
          refine wpAnyH_take (i := 15) (v := undef) rfl (by kernel_rfl) (by kernel_rfl) (by kernel_rfl) (fun _ _ _ h => h) (Or.inr ⟨by rfl, rfl⟩) hHeld ?_
          (try simp only [Act.put, List.getElem_toArray, List.getElem_cons_succ, List.getElem_cons_zero, List.setIfInBounds_toArray, List.set_cons_succ, List.set_cons_zero])
          refine wpAnyH_take (i := 16) (v := undef) rfl (by kernel_rfl) (by kernel_rfl) (by kernel_rfl) (fun _ _ _ h => h) (Or.inr ⟨by rfl, rfl⟩) hHeld ?_
          (try simp only [Act.put, List.getElem_toArray, List.getElem_cons_succ, List.getElem_cons_zero, List.setIfInBounds_toArray, List.set_cons_succ, List.set_cons_zero])
          refine wpAnyH_take (i := 17) (v := undef) rfl (by kernel_rfl) (by kernel_rfl) (by kernel_rfl) (fun _ _ _ h => h) (Or.inr ⟨by rfl, rfl⟩) hHeld ?_
          (try simp only [Act.put, List.getElem_toArray, List.getElem_cons_succ, List.getElem_cons_zero, List.setIfInBounds_toArray, List.set_cons_succ, List.set_cons_zero])
          refine wpAnyH_take (i := 18) (v := undef) rfl (by kernel_rfl) (by kernel_rfl) (by kernel_rfl) (fun _ _ _ h => h) (Or.inr ⟨by rfl, rfl⟩) hHeld ?_
          (try simp only [Act.put, List.getElem_toArray, List.getElem_cons_succ, List.getElem_cons_zero, List.setIfInBounds_toArray, List.set_cons_succ, List.set_cons_zero])
          refine wpAnyH_take (i := 19) (v := ?_) rfl (by kernel_rfl) (by kernel_rfl) (by kernel_rfl) (fun _ _ _ h => h) (Or.inl ⟨by rfl, ?_⟩) hHeld ?_
          rotate_left
          · (intro wx hSx; obtain ⟨⟨a0, a1⟩, ⟨f0, f1⟩, _⟩ : (_ ∧ _) ∧ (_ ∧ _) ∧ True := ⟨hSx.1.1, hSx.2.1.1, trivial⟩; go_simp; (try with_reducible rfl))
          (try simp only [Act.put, List.getElem_toArray, List.getElem_cons_succ, List.getElem_cons_zero, List.setIfInBounds_toArray, List.set_cons_succ, List.set_cons_zero])
          refine wpAnyH_done (by kernel_rfl) ?_ _
          clear hHeld
          go_wp2
          go_meet
          exact ⟨rfl, HH.out.2.2⟩
        | true =>
          have hok : okB ⟨nx, l⟩ := of_decide_eq_true HBO.out
          have hle := HEE.out hok
          have HYI2 := Lib.hid (HYI.out hok A3 c3)
          have HYR2 := Lib.hid (HYR.out A3 c3)
          have HYE2 := Lib.hid (HYE.out A3 c3)
          generalize endB ⟨nx, l⟩ = eB at *
          have hdl : decide (eY < eB) = false := decide_eq_false (by omega)
          clear hok hle HEE HYI HYR HYE
          refine wp_region_held_drew (S := Hv2 w w.heap.size g1 nx (.slice A1 l.length c1) l B3 g3 nx (.slice A3 L.length c3) L) (by kernel_rfl) HH.out (fun hHeld => ?_)
          refine wpAnyH_take (i := 0) (v := ?_) rfl (by kernel_rfl) (by kernel_rfl) (by kernel_rfl) (fun _ _ _ h => h) (Or.inl ⟨by rfl, ?_⟩) hHeld ?_
          rotate_left
          · (intro wx hSx; obtain ⟨⟨a0, a1⟩, ⟨f0, f1⟩, _⟩ : (_ ∧ _) ∧ (_ ∧ _) ∧ True := ⟨hSx.1.1, hSx.2.1.1, trivial⟩; go_simp; (try with_reducible rfl))
          (try simp only [Act.put, List.getElem_toArray, List.getElem_cons_zero, List.setIfInBounds_toArray, List.set_cons_succ, List.set_cons_zero])
          refine wpAnyH_ready (rs := [1]) (by kernel_rfl) (by simp) ?_
          refine AllReadyH.cons rfl (fun K hK => ?_) AllReadyH.nil
          rw [if_pos (by rfl)]
          go_simp
          refine (HSB2.out _ HH.out.1.2.1.chs).mono ?_
          rintro e w1 ⟨rfl, hb1⟩
          have HH := Lib.hid (HH.out.next hb1)
          (try simp only [])
          refine hK.out _ _ HH.out (fun hHeld => ?_)
          clear hb1
          clear hK K
          (try simp only [Act.put, List.getElem_toArray, List.getElem_cons_succ, List.getElem_cons_zero, List.setIfInBounds_toArray, List.set_cons_succ, List.set_cons_zero])
          refine wpAnyH_take (i := 2) (v := ?_) rfl (by kernel_rfl) (by kernel_rfl) (by kernel_rfl) (fun _ _ _ h => h) (Or.inl ⟨by rfl, ?_⟩) hHeld ?_
          rotate_left
          · (intro wx hSx; obtain ⟨⟨a0, a1⟩, ⟨f0, f1⟩, _⟩ : (_ ∧ _) ∧ (_ ∧ _) ∧ True := ⟨hSx.1.1, hSx.2.1.1, trivial⟩; go_simp; (try with_reducible rfl))
          (try simp only [Act.put, List.getElem_toArray, List.getElem_cons_succ, List.getElem_cons_zero, List.setIfInBounds_toArray, List.set_cons_succ, List.set_cons_zero])
          refine wpAnyH_take (i := 3) (v := ?_) rfl (by kernel_rfl) (by kernel_rfl) (by kernel_rfl) (fun _ _ _ h => h) (Or.inl ⟨by rfl, ?_⟩) hHeld ?_
          rotate_left
          · (intro wx hSx; obtain ⟨⟨a0, a1⟩, ⟨f0, f1⟩, _⟩ : (_ ∧ _) ∧ (_ ∧ _) ∧ True := ⟨hSx.1.1, hSx.2.1.1, trivial⟩; go_simp; (try with_reducible rfl))
          (try simp only [Act.put, List.getElem_toArray, List.getElem_cons_succ, List.getElem_cons_zero, List.setIfInBounds_toArray, List.set_cons_succ, List.set_cons_zero])
          refine wpAnyH_ready (rs := [4]) (by kernel_rfl) (by simp) ?_
          refine AllReadyH.cons rfl (fun K hK => ?_) AllReadyH.nil
          rw [if_pos (by rfl)]
          go_simp
          refine (HYI2.out _ HH.out.2.1.2.1.chs).mono ?_
          rintro e w1 ⟨rfl, hb1⟩
          have HH := Lib.hid (HH.out.next hb1)
          (try simp only [])
          refine hK.out _ _ HH.out (fun hHeld => ?_)
          clear hb1
          clear hK K
          (try simp only [Act.put, List.getElem_toArray, List.getElem_cons_succ, List.getElem_cons_zero, List.setIfInBounds_toArray, List.set_cons_succ, List.set_cons_zero])
          refine wpAnyH_take (i := 5) (v := ?_) rfl (by kernel_rfl) (by kernel_rfl) (by kernel_rfl) (fun _ _ _ h => h) (Or.inl ⟨by rfl, ?_⟩) hHeld ?_
          rotate_left
          · (intro wx hSx; obtain ⟨⟨a0, a1⟩, ⟨f0, f1⟩, _⟩ : (_ ∧ _) ∧ (_ ∧ _) ∧ True := ⟨hSx.1.1, hSx.2.1.1, trivial⟩; go_simp; (try with_reducible rfl))
          (try simp only [Act.put, List.getElem_toArray, List.getElem_cons_succ, List.getElem_cons_zero, List.setIfInBounds_toArray, List.set_cons_succ, List.set_cons_zero])
          refine wpAnyH_take (i := 6) (v := ?_) rfl (by kernel_rfl) (by kernel_rfl) (by kernel_rfl) (fun _ _ _ h => h) (Or.inl ⟨by rfl, ?_⟩) hHeld ?_
          rotate_left
          · (intro wx hSx; obtain ⟨⟨a0, a1⟩, ⟨f0, f1⟩, _⟩ : (_ ∧ _) ∧ (_ ∧ _) ∧ True := ⟨hSx.1.1, hSx.2.1.1, trivial⟩; go_simp; (try with_reducible rfl))
          (try simp only [Act.put, List.getElem_toArray, List.getElem_cons_succ, List.getElem_cons_zero, List.setIfInBounds_toArray, List.set_cons_succ, List.set_cons_zero])
          refine wpAnyH_take (i := 7) (v := ?_) rfl (by kernel_rfl) (by kernel_rfl) (by kernel_rfl) (fun _ _ _ h => h) (Or.inl ⟨by rfl, ?_⟩) hHeld ?_
          rotate_left
          · (intro wx hSx; obtain ⟨⟨a0, a1⟩, ⟨f0, f1⟩, _⟩ : (_ ∧ _) ∧ (_ ∧ _) ∧ True := ⟨hSx.1.1, hSx.2.1.1, trivial⟩; go_simp; (try with_reducible rfl))
          (try simp only [Act.put, List.getElem_toArray, List.getElem_cons_succ, List.getElem_cons_zero, List.setIfInBounds_toArray, List.set_cons_succ, List.set_cons_zero])
          refine wpAnyH_ready (rs := [8]) (by kernel_rfl) (by simp) ?_
          refine AllReadyH.cons rfl (fun K hK => ?_) AllReadyH.nil
          rw [if_pos (by rfl)]
          go_simp
          refine (HYR2.out _ HH.out.2.1.2.1.chs).mono ?_
          rintro e w1 ⟨vr, rfl, hor, hb1⟩
          obtain ⟨Ar, cr, rfl, _, hrg⟩ := hor.rgs
          have HRG := Lib.hid hrg
          clear hor hrg
          have HH := Lib.hid (HH.out.next hb1)
          (try simp only [])
          refine hK.out _ _ HH.out (fun hHeld => ?_)
          clear hb1
          clear hK K
          (try simp only [Act.put, List.getElem_toArray, List.getElem_cons_succ, List.getElem_cons_zero, List.setIfInBounds_toArray, List.set_cons_succ, List.set_cons_zero])
          refine wpAnyH_ready (rs := [9]) (by kernel_rfl) (by simp) ?_
          refine AllReadyH.cons rfl (fun K hK => ?_) AllReadyH.nil
          rw [if_pos (by rfl)]
          go_simp
          refine (HIR.out _ _ _ HRG.out).mono ?_
          rintro e w1 ⟨rfl, hb1⟩
          have HH := Lib.hid (HH.out.next hb1)
          (try simp only [])
          refine hK.out _ _ HH.out (fun hHeld => ?_)
          clear hb1
          clear hK K
          (try simp only [Act.put, List.getElem_toArray, List.getElem_cons_succ, List.getElem_cons_zero, List.setIfInBounds_toArray, List.set_cons_succ, List.set_cons_zero])
          refine wpAnyH_take (i := 10) (v := ?_) rfl (by kernel_rfl) (by kernel_rfl) (by kernel_rfl) (fun _ _ _ h => h) (Or.inl ⟨by rfl, ?_⟩) hHeld ?_
          rotate_left
          · (intro wx hSx; obtain ⟨⟨a0, a1⟩, ⟨f0, f1⟩, _⟩ : (_ ∧ _) ∧ (_ ∧ _) ∧ True := ⟨hSx.1.1, hSx.2.1.1, trivial⟩; go_simp; (try with_reducible rfl))
          (try simp only [Act.put, List.getElem_toArray, List.getElem_cons_succ, List.getElem_cons_zero, List.setIfInBounds_toArray, List.set_cons_succ, List.set_cons_zero])
          refine wpAnyH_take (i := 11) (v := ?_) rfl (by kernel_rfl) (by kernel_rfl) (by kernel_rfl) (fun _ _ _ h => h) (Or.inl ⟨by rfl, ?_⟩) hHeld ?_
          rotate_left
          · (intro wx hSx; obtain ⟨⟨a0, a1⟩, ⟨f0, f1⟩, _⟩ : (_ ∧ _) ∧ (_ ∧ _) ∧ True := ⟨hSx.1.1, hSx.2.1.1, trivial⟩; go_simp; (try with_reducible rfl))
          (try simp only [Act.put, List.getElem_toArray, List.getElem_cons_succ, List.getElem_cons_zero, List.setIfInBounds_toArray, List.set_cons_succ, List.set_cons_zero])
          refine wpAnyH_take (i := 12) (v := ?_) rfl (by kernel_rfl) (by kernel_rfl) (by kernel_rfl) (fun _ _ _ h => h) (Or.inl ⟨by rfl, ?_⟩) hHeld ?_
          rotate_left
          · (intro wx hSx; obtain ⟨⟨a0, a1⟩, ⟨f0, f1⟩, _⟩ : (_ ∧ _) ∧ (_ ∧ _) ∧ True := ⟨hSx.1.1, hSx.2.1.1, trivial⟩; go_simp; (try with_reducible rfl))
          (try simp only [Act.put, List.getElem_toArray, List.getElem_cons_succ, List.getElem_cons_zero, List.setIfInBounds_toArray, List.set_cons_succ, List.set_cons_zero])
          refine wpAnyH_take (i := 13) (v := ?_) rfl (by kernel_rfl) (by kernel_rfl) (by kernel_rfl) (fun _ _ _ h => h) (Or.inl ⟨by rfl, ?_⟩) hHeld ?_
          rotate_left
          · (intro wx hSx; obtain ⟨⟨a0, a1⟩, ⟨f0, f1⟩, _⟩ : (_ ∧ _) ∧ (_ ∧ _) ∧ True := ⟨hSx.1.1, hSx.2.1.1, trivial⟩; go_simp; (try with_reducible rfl))
          (try simp only [Act.put, List.getElem_toArray, List.getElem_cons_succ, List.getElem_cons_zero, List.setIfInBounds_toArray, List.set_cons_succ, List.set_cons_zero])
          refine wpAnyH_take (i := 15) (v := ?_) rfl (by kernel_rfl) (by kernel_rfl) (by kernel_rfl) (fun _ _ _ h => h) (Or.inl ⟨by rfl, ?_⟩) hHeld ?_
          rotate_left
          · (intro wx hSx; obtain ⟨⟨a0, a1⟩, ⟨f0, f1⟩, _⟩ : (_ ∧ _) ∧ (_ ∧ _) ∧ True := ⟨hSx.1.1, hSx.2.1.1, trivial⟩; go_simp; (try with_reducible rfl))
          (try simp only [Act.put, List.getElem_toArray, List.getElem_cons_succ, List.getElem_cons_zero, List.setIfInBounds_toArray, List.set_cons_succ, List.set_cons_zero])
          refine wpAnyH_ready (rs := [14]) (by kernel_rfl) (by simp) ?_
          refine AllReadyH.cons rfl (fun K hK => ?_) AllReadyH.nil
          rw [if_pos (by rfl)]
          go_simp
          refine (HYE2.out _ HH.out.2.1.2.1.chs).mono ?_
          rintro e w1 ⟨rfl, hb1⟩
          have HH := Lib.hid (HH.out.next hb1)
          (try simp only [])
          refine hK.out _ _ HH.out (fun hHeld => ?_)
          clear hb1
          clear hK K
          (try simp only [Act.put, List.getElem_toArray, List.getElem_cons_succ, List.getElem_cons_zero, List.setIfInBounds_toArray, List.set_cons_succ, List.set_cons_zero])
          refine wpAnyH_ready (rs := [16]) (by kernel_rfl) (by simp) ?_
          refine AllReadyH.cons rfl (fun K hK => ?_) AllReadyH.nil
          rw [if_pos (by rfl)]
          go_simp
          refine (HEB.out _ HH.out.1.2.1.chs).mono ?_
          rintro e w1 ⟨rfl, hb1⟩
          have HH := Lib.hid (HH.out.next hb1)
          (try simp only [])
          refine hK.out _ _ HH.out (fun hHeld => ?_)
          clear hb1
          clear hK K
          (try simp only [Act.put, List.getElem_toArray, List.getElem_cons_succ, List.getElem_cons_zero, List.setIfInBounds_toArray, List.set_cons_succ, List.set_cons_zero])
          refine wpAnyH_take (i := 17) (v := ?_) rfl (by kernel_rfl) (by kernel_rfl) (by kernel_rfl) (fun _ _ _ h => h) (Or.inl ⟨by rfl, ?_⟩) hHeld ?_
          rotate_left
          · (intro wx hSx; obtain ⟨⟨a0, a1⟩, ⟨f0, f1⟩, _⟩ : (_ ∧ _) ∧ (_ ∧ _) ∧ True := ⟨hSx.1.1, hSx.2.1.1, trivial⟩; go_simp; (try with_reducible rfl))
          (try simp only [Act.put, List.getElem_toArray, List.getElem_cons_succ, List.getElem_cons_zero, List.setIfInBounds_toArray, List.set_cons_succ, List.set_cons_zero])
          refine wpAnyH_take (i := 18) (v := ?_) rfl (by kernel_rfl) (by kernel_rfl) (by kernel_rfl) (fun _ _ _ h => h) (Or.inl ⟨by rfl, ?_⟩) hHeld ?_
          rotate_left
          · (intro wx hSx; obtain ⟨⟨a0, a1⟩, ⟨f0, f1⟩, _⟩ : (_ ∧ _) ∧ (_ ∧ _) ∧ True := ⟨hSx.1.1, hSx.2.1.1, trivial⟩; go_simp; (try with_reducible rfl))
          (try simp only [Act.put, List.getElem_toArray, List.getElem_cons_succ, List.getElem_cons_zero, List.setIfInBounds_toArray, List.set_cons_succ, List.set_cons_zero])
          refine wpAnyH_take (i := 19) (v := ?_) rfl (by kernel_rfl) (by kernel_rfl) (by kernel_rfl) (fun _ _ _ h => h) (Or.inl ⟨by rfl, ?_⟩) hHeld ?_
          rotate_left
          · (intro wx hSx; obtain ⟨⟨a0, a1⟩, ⟨f0, f1⟩, _⟩ : (_ ∧ _) ∧ (_ ∧ _) ∧ True := ⟨hSx.1.1, hSx.2.1.1, trivial⟩; go_simp; (try with_reducible rfl))
          (try simp only [Act.put, List.getElem_toArray, List.getElem_cons_succ, List.getElem_cons_zero, List.setIfInBounds_toArray, List.set_cons_succ, List.set_cons_zero])
          refine wpAnyH_done (by kernel_rfl) ?_ _
          clear hHeld
          go_wp2
          go_meet
          exact ⟨rfl, HH.out.2.2⟩
      case rest =>
        obtain ⟨rfl, hb⟩ := hcut
        have BC := Lib.hid hb
        clear hb HH2 HEB HYI HYR HYE HIR HEE HSB2 HBO HRN
        go_wp2_with fail
        refine (draw_eqb A len cap _ HL.out (Code.later HC.out BC.out)).mono ?_
        rintro e w7 ⟨bu, bv, vu, vv, rfl, hsu, hsv, hou, hov, hb7⟩
        obtain ⟨Au, cu, rfl, _, _⟩ := hou.frs
        obtain ⟨Av, cv, rfl, _, _⟩ := hov.frs
        have hs7 : (w7.alloc (.cells #[.int .i64 bu.next, .slice Au bu.chs.length cu] 26)).heap.size = w7.heap.size + 1 := by simp
        have U8 := Lib.hid ((VarB.new bu.next 26 hou.x hb7.size).alloc (.cells #[.int .i64 bv.next, .slice Av bv.chs.length cv] 26))
        have v8 := VarB.new bv.next 26 (hov.x.alloc (.cells #[.int .i64 bu.next, .slice Au bu.chs.length cu] 26)) (by rw [hs7]; exact Nat.le_succ_of_le hb7.size)
        rw [hs7] at v8
        have V8 := Lib.hid v8
        have B8 := Lib.hid (((BC.out.trans (hb7.mono BC.out.size)).alloc (Nat.le_trans BC.out.size hb7.size) (.cells #[.int .i64 bu.next, .slice Au bu.chs.length cu] 26)).alloc (by rw [hs7]; exact Nat.le_succ_of_le (Nat.le_trans BC.out.size hb7.size)) (.cells #[.int .i64 bv.next, .slice Av bv.chs.length cv] 26))
        have HSU := Lib.hid hsu
        have HSV := Lib.hid hsv
        clear hou hov hb7 hs7 v8 hsu hsv BC
        go_upto_region 19 with fail
        generalize (w7.alloc (.cells #[.int .i64 bu.next, .slice Au bu.chs.length cu] 26)).alloc (.cells #[.int .i64 bv.next, .slice Av bv.chs.length cv] 26) = w8 at *
        generalize w7.heap.size + 1 = k2 at *
        generalize w7.heap.size = k1 at *
        generalize wc.heap.size = E1 at *
        go_wp2_with fail
        refine (draw_end A len cap _ HL.out (Code.later HC.out B8.out)).mono ?_
        rintro e w9 ⟨bx, vx, rfl, hsx, hox, hb9⟩
        obtain ⟨Ax, cx, rfl, _, _⟩ := hox.frs
        have X10 := Lib.hid (VarB.new bx.next 26 hox.x hb9.size)
        have U10 := Lib.hid ((U8.out.next hb9).alloc (.cells #[.int .i64 bx.next, .slice Ax bx.chs.length cx] 26))
        have V10 := Lib.hid ((V8.out.next hb9).alloc (.cells #[.int .i64 bx.next, .slice Ax bx.chs.length cx] 26))
        have B10 := Lib.hid ((B8.out.trans (hb9.mono B8.out.size)).alloc (Nat.le_trans B8.out.size hb9.size) (.cells #[.int .i64 bx.next, .slice Ax bx.chs.length cx] 26))
        have HSX := Lib.hid hsx
        clear hox hb9 hsx U8 V8 B8
        go_upto_region 20 with fail
        generalize w9.alloc (.cells #[.int .i64 bx.next, .slice Ax bx.chs.length cx] 26) = w10 at *
        generalize w9.heap.size = k3 at *
        generalize w8.heap.size = E3 at *
        go_wp2_with fail
        refine (draw_at A len cap _ HL.out (Code.later HC.out B10.out)).mono ?_
        rintro e w11 ⟨bk, vk, y, rfl, hsk, hy, hok, hb11⟩
        obtain ⟨Ak, ck, rfl, _, _⟩ := hok.frs
        have K12 := Lib.hid (VarB.new bk.next 26 hok.x hb11.size)
        have U12 := Lib.hid ((U10.out.next hb11).alloc (.cells #[.int .i64 bk.next, .slice Ak bk.chs.length ck] 26))
        have V12 := Lib.hid ((V10.out.next hb11).alloc (.cells #[.int .i64 bk.next, .slice Ak bk.chs.length ck] 26))
        have X12 := Lib.hid ((X10.out.next hb11).alloc (.cells #[.int .i64 bk.next, .slice Ak bk.chs.length ck] 26))
        have B12 := Lib.hid ((B10.out.trans (hb11.mono B10.out.size)).alloc (Nat.le_trans B10.out.size hb11.size) (.cells #[.int .i64 bk.next, .slice Ak bk.chs.length ck] 26))
        have HSK := Lib.hid hsk
        have HY := Lib.hid hy
        clear hok hb11 hsk hy U10 V10 X10 B10
        go_upto_region 21 with fail
        generalize w11.alloc (.cells #[.int .i64 bk.next, .slice Ak bk.chs.length ck] 26) = w12 at *
        generalize w11.heap.size = k4 at *
        generalize w10.heap.size = E4 at *
        -- what the calls return
        have CIQ : Hid (∀ W, Chs W W.heap.size Au bu.chs → Chs W W.heap.size Av bv.chs → Calls Try.prog 28 #[bfV bu.next (.slice Au bu.chs.length cu), bfV bv.next (.slice Av bv.chs.length cv)] W fun e w' => e = .returned (.bool (decide (bu.next = bv.next ∧ bu.chs = bv.chs))) ∧ Below W.heap.size W w') := Lib.hid fun W h h' => iequal bu.next bv.next bu.chs bv.chs Au Av cu cv W.heap.size W (Nat.le_refl _) h h' (by have := HSU.out.1; omega) (by have := HSV.out.1; omega)
        have CSQ : Hid (∀ W, Chs W W.heap.size Au bu.chs → Chs W W.heap.size Av bv.chs → Calls Try.prog 17 #[bfV bu.next (.slice Au bu.chs.length cu), bfV bv.next (.slice Av bv.chs.length cv)] W fun e w' => e = .returned (.bool (decide (bu.next = bv.next ∧ bu.chs = bv.chs))) ∧ Below W.heap.size W w') := Lib.hid fun W h h' => sequal bu.next bv.next bu.chs bv.chs Au Av cu cv W.heap.size W (Nat.le_refl _) h h' (by have := HSU.out.1; omega)
        have CIE : Hid (∀ W, Chs W W.heap.size Ax bx.chs → Calls Try.prog 24 #[bfV bx.next (.slice Ax bx.chs.length cx)] W fun e w' => e = .returned (.int .i64 (endB bx)) ∧ Below W.heap.size W w') := Lib.hid fun W h => iendof bx Ax cx W.heap.size W (Nat.le_refl _) h (by have := HSX.out.1; omega) (smallB.inB HSX.out) HSX.out.2.2.2
        have CSE : Hid (∀ W, Chs W W.heap.size Ax bx.chs → Calls Try.prog 29 #[bfV bx.next (.slice Ax bx.chs.length cx)] W fun e w' => e = .returned (.int .i64 (endB bx)) ∧ Below W.heap.size W w') := Lib.hid fun W h => sendof bx Ax cx W.heap.size W (Nat.le_refl _) h (by have := HSX.out.1; omega) (smallB.inB HSX.out) HSX.out.2.2.2
        have CID : Hid (∀ W, Chs W W.heap.size Ax bx.chs → Calls Try.prog 30 #[bfV bx.next (.slice Ax bx.chs.length cx)] W fun e w' => e = .returned (.int .i64 (rdyB bx : Nat)) ∧ Below W.heap.size W w') := Lib.hid fun W h => iready bx Ax cx W.heap.size W (Nat.le_refl _) h (by have := HSX.out.1; omega) (smallB.inB HSX.out) HSX.out.2.2.2
        have CSD : Hid (∀ W, Chs W W.heap.size Ax bx.chs → Calls Try.prog 31 #[bfV bx.next (.slice Ax bx.chs.length cx)] W fun e w' => e = .returned (.int .i64 (rdyB bx : Nat)) ∧ Below W.heap.size W w') := Lib.hid fun W h => sready bx Ax cx W.heap.size W (Nat.le_refl _) h (by have := HSX.out.1; omega) (smallB.inB HSX.out) HSX.out.2.2.2
        have CIR : Hid (∀ W, Chs W W.heap.size Ax bx.chs → Calls Try.prog 23 #[bfV bx.next (.slice Ax bx.chs.length cx)] W fun e w' => ∃ v, e = .returned v ∧ OwnR w' W.heap.size v (rgsB bx) ∧ Below W.heap.size W w') := Lib.hid fun W h => ibrng bx Ax cx W.heap.size W (Nat.le_refl _) h (by have := HSX.out.1; omega) (smallB.inB HSX.out) HSX.out.2.2.2
        have CSR : Hid (∀ W, Chs W W.heap.size Ax bx.chs → Calls Try.prog 33 #[bfV bx.next (.slice Ax bx.chs.length cx)] W fun e w' => ∃ v, e = .returned v ∧ OwnR w' W.heap.size v (rgsB bx) ∧ Below W.heap.size W w') := Lib.hid fun W h => sbrng bx Ax cx W.heap.size W (Nat.le_refl _) h (by have := HSX.out.1; omega) (smallB.inB HSX.out) HSX.out.2.2.2
        have CRQ : Hid (∀ (X Y : Option Addr) (cx cy : Nat) W, Rgs W W.heap.size X (rgsB bx) → Rgs W W.heap.size Y (rgsB bx) → Calls Try.prog 32 #[.slice X (rgsB bx).length cx, .slice Y (rgsB bx).length cy] W fun e w' => e = .returned (.bool true) ∧ Below W.heap.size W w') := Lib.hid fun X Y cx cy W h h' => by
          have h2 := seqr (rgsB bx) (rgsB bx) X Y cx cy W.heap.size W (Nat.le_refl _) h h' (by have := rgsB_len bx; have := HSX.out.1; omega) (by have := rgsB_len bx; have := HSX.out.1; omega)
          rw [decide_eq_true rfl] at h2
          exact h2
        have CIA : Hid (∀ W, Chs W W.heap.size Ak bk.chs → Calls Try.prog 21 #[bfV bk.next (.slice Ak bk.chs.length ck), .int .i64 y] W fun e w' => e = .returned (.int .i64 (byteB bk.chs y)) ∧ Below W.heap.size W w') := Lib.hid fun W h => ibyteat bk.next bk.chs y Ak ck W.heap.size W (Nat.le_refl _) h (by have := HSK.out.1; omega) (smallB.inB HSK.out) (by have := HY.out; omega)
        have CSA : Hid (∀ W, Chs W W.heap.size Ak bk.chs → Calls Try.prog 20 #[bfV bk.next (.slice Ak bk.chs.length ck), .int .i64 y] W fun e w' => e = .returned (.int .i64 (byteB bk.chs y)) ∧ Below W.heap.size W w') := Lib.hid fun W h => sbyteat bk.next bk.chs y Ak ck W.heap.size W (Nat.le_refl _) h (by have := HSK.out.1; omega) (smallB.inB HSK.out) (by have := HY.out; omega)
        have HH : Hid (Hv4 w E1 k1 bu.next (.slice Au bu.chs.length cu) bu.chs E1 k2 bv.next (.slice Av bv.chs.length cv) bv.chs E3 k3 bx.next (.slice Ax bx.chs.length cx) bx.chs E4 k4 bk.next (.slice Ak bk.chs.length ck) bk.chs w12.drew) := Lib.hid (Hv4.next ⟨U12.out, V12.out, X12.out, K12.out, B12.out⟩ (Below.refl _ _).drew)
        clear U12 V12 X12 K12 B12 HSU HSV HSX HSK HY HC HL
        generalize decide (bu.next = bv.next ∧ bu.chs = bv.chs) = bq at *
        generalize endB bx = ex at *
        generalize (rdyB bx : Int) = rx at *
        generalize rgsB bx = gx at *
        generalize byteB bk.chs y = by0 at *
        obtain ⟨nu, lu⟩ := bu
        obtain ⟨nv, lv⟩ := bv
        obtain ⟨nxx, lx⟩ := bx
        obtain ⟨nk, lk⟩ := bk
        dsimp only at *
        have hq1 := eqBo bq
        have hq2 := eqI ex
        have hq3 := eqI rx
        have hq4 := eqI by0
        refine wp_region_held_drew (S := Hv4 w E1 k1 nu (.slice Au lu.length cu) lu E1 k2 nv (.slice Av lv.length cv) lv E3 k3 nxx (.slice Ax lx.length cx) lx E4 k4 nk (.slice Ak lk.length ck) lk) (by kernel_rfl) HH.out (fun hHeld => ?_)
        refine wpAnyH_take (i := 0) (v := ?_) rfl (by kernel_rfl) (by kernel_rfl) (by kernel_rfl) (fun _ _ _ h => h) (Or.inl ⟨by rfl, ?_⟩) hHeld ?_
        rotate_left
        · (intro wx hSx; obtain ⟨⟨a0, a1⟩, ⟨e0, e1⟩, ⟨f0, f1⟩, ⟨h0, h1⟩, _⟩ : (_ ∧ _) ∧ (_ ∧ _) ∧ (_ ∧ _) ∧ (_ ∧ _) ∧ True := ⟨hSx.1.1, hSx.2.1.1, hSx.2.2.1.1, hSx.2.2.2.1.1, trivial⟩; go_simp; (try with_reducible rfl))
        (try simp only [Act.put, List.getElem_toArray, List.getElem_cons_zero, List.setIfInBounds_toArray, List.set_cons_succ, List.set_cons_zero])
        refine wpAnyH_take (i := 1) (v := ?_) rfl (by kernel_rfl) (by kernel_rfl) (by kernel_rfl) (fun _ _ _ h => h) (Or.inl ⟨by rfl, ?_⟩) hHeld ?_
        rotate_left
        · (intro wx hSx; obtain ⟨⟨a0, a1⟩, ⟨e0, e1⟩, ⟨f0, f1⟩, ⟨h0, h1⟩, _⟩ : (_ ∧ _) ∧ (_ ∧ _) ∧ (_ ∧ _) ∧ (_ ∧ _) ∧ True := ⟨hSx.1.1, hSx.2.1.1, hSx.2.2.1.1, hSx.2.2.2.1.1, trivial⟩; go_simp; (try with_reducible rfl))
        (try simp only [Act.put, List.getElem_toArray, List.getElem_cons_succ, List.getElem_cons_zero, List.setIfInBounds_toArray, List.set_cons_succ, List.set_cons_zero])
        refine wpAnyH_take (i := 3) (v := ?_) rfl (by kernel_rfl) (by kernel_rfl) (by kernel_rfl) (fun _ _ _ h => h) (Or.inl ⟨by rfl, ?_⟩) hHeld ?_
        rotate_left
        · (intro wx hSx; obtain ⟨⟨a0, a1⟩, ⟨e0, e1⟩, ⟨f0, f1⟩, ⟨h0, h1⟩, _⟩ : (_ ∧ _) ∧ (_ ∧ _) ∧ (_ ∧ _) ∧ (_ ∧ _) ∧ True := ⟨hSx.1.1, hSx.2.1.1, hSx.2.2.1.1, hSx.2.2.2.1.1, trivial⟩; go_simp; (try with_reducible rfl))
        (try simp only [Act.put, List.getElem_toArray, List.getElem_cons_succ, List.getElem_cons_zero, List.setIfInBounds_toArray, List.set_cons_succ, List.set_cons_zero])
        refine wpAnyH_take (i := 4) (v := ?_) rfl (by kernel_rfl) (by kernel_rfl) (by kernel_rfl) (fun _ _ _ h => h) (Or.inl ⟨by rfl, ?_⟩) hHeld ?_
        rotate_left
        · (intro wx hSx; obtain ⟨⟨a0, a1⟩, ⟨e0, e1⟩, ⟨f0, f1⟩, ⟨h0, h1⟩, _⟩ : (_ ∧ _) ∧ (_ ∧ _) ∧ (_ ∧ _) ∧ (_ ∧ _) ∧ True := ⟨hSx.1.1, hSx.2.1.1, hSx.2.2.1.1, hSx.2.2.2.1.1, trivial⟩; go_simp; (try with_reducible rfl))
        (try simp only [Act.put, List.getElem_toArray, List.getElem_cons_succ, List.getElem_cons_zero, List.setIfInBounds_toArray, List.set_cons_succ, List.set_cons_zero])
        refine wpAnyH_ready (rs := [2]) (by kernel_rfl) (by simp) ?_
        refine AllReadyH.cons rfl (fun K hK => ?_) AllReadyH.nil
        rw [if_pos (by rfl)]
        go_simp
        refine (CIQ.out _ HH.out.1.2.1.chs HH.out.2.1.2.1.chs).mono ?_
        rintro e w1 ⟨rfl, hb1⟩
        have HH := Lib.hid (HH.out.next hb1)
        (try simp only [])
        refine hK.out _ _ HH.out (fun hHeld => ?_)
        clear hb1
        clear hK K
        (try simp only [Act.put, List.getElem_toArray, List.getElem_cons_succ, List.getElem_cons_zero, List.setIfInBounds_toArray, List.set_cons_succ, List.set_cons_zero])
        refine wpAnyH_ready (rs := [5]) (by kernel_rfl) (by simp) ?_
        refine AllReadyH.cons rfl (fun K hK => ?_) AllReadyH.nil
        rw [if_pos (by rfl)]
        go_simp
        refine (CSQ.out _ HH.out.1.2.1.chs HH.out.2.1.2.1.chs).mono ?_
        rintro e w1 ⟨rfl, hb1⟩
        have HH := Lib.hid (HH.out.next hb1)
        (try simp only [])
        refine hK.out _ _ HH.out (fun hHeld => ?_)
        clear hb1
        clear hK K
        (try simp only [Act.put, List.getElem_toArray, List.getElem_cons_succ, List.getElem_cons_zero, List.setIfInBounds_toArray, List.set_cons_succ, List.set_cons_zero])
        refine wpAnyH_take (i := 6) (v := ?_) rfl (by kernel_rfl) (by kernel_rfl) (by kernel_rfl) (fun _ _ _ h => h) (Or.inl ⟨by rfl, ?_⟩) hHeld ?_
        rotate_left
        · (intro wx hSx; obtain ⟨⟨a0, a1⟩, ⟨e0, e1⟩, ⟨f0, f1⟩, ⟨h0, h1⟩, _⟩ : (_ ∧ _) ∧ (_ ∧ _) ∧ (_ ∧ _) ∧ (_ ∧ _) ∧ True := ⟨hSx.1.1, hSx.2.1.1, hSx.2.2.1.1, hSx.2.2.2.1.1, trivial⟩; go_simp; (try with_reducible rfl))
        (try simp only [Act.put, List.getElem_toArray, List.getElem_cons_succ, List.getElem_cons_zero, List.setIfInBounds_toArray, List.set_cons_succ, List.set_cons_zero])
        refine wpAnyH_take (i := 7) (v := ?_) rfl (by kernel_rfl) (by kernel_rfl) (by kernel_rfl) (fun _ _ _ h => h) (Or.inl ⟨by rfl, ?_⟩) hHeld ?_
        rotate_left
        · (intro wx hSx; obtain ⟨⟨a0, a1⟩, ⟨e0, e1⟩, ⟨f0, f1⟩, ⟨h0, h1⟩, _⟩ : (_ ∧ _) ∧ (_ ∧ _) ∧ (_ ∧ _) ∧ (_ ∧ _) ∧ True := ⟨hSx.1.1, hSx.2.1.1, hSx.2.2.1.1, hSx.2.2.2.1.1, trivial⟩; go_simp; (try with_reducible rfl))
        (try simp only [Act.put, List.getElem_toArray, List.getElem_cons_succ, List.getElem_cons_zero, List.setIfInBounds_toArray, List.set_cons_succ, List.set_cons_zero])
        refine wpAnyH_take (i := 8) (v := ?_) rfl (by kernel_rfl) (by kernel_rfl) (by kernel_rfl) (fun _ _ _ h => h) (Or.inl ⟨by rfl, ?_⟩) hHeld ?_
        rotate_left
        · (intro wx hSx; obtain ⟨⟨a0, a1⟩, ⟨e0, e1⟩, ⟨f0, f1⟩, ⟨h0, h1⟩, _⟩ : (_ ∧ _) ∧ (_ ∧ _) ∧ (_ ∧ _) ∧ (_ ∧ _) ∧ True := ⟨hSx.1.1, hSx.2.1.1, hSx.2.2.1.1, hSx.2.2.2.1.1, trivial⟩; go_simp; (try with_reducible rfl))
        (try simp only [Act.put, List.getElem_toArray, List.getElem_cons_succ, List.getElem_cons_zero, List.setIfInBounds_toArray, List.set_cons_succ, List.set_cons_zero])
        refine wpAnyH_take (i := 10) (v := ?_) rfl (by kernel_rfl) (by kernel_rfl) (by kernel_rfl) (fun _ _ _ h => h) (Or.inl ⟨by rfl, ?_⟩) hHeld ?_
        rotate_left
        · (intro wx hSx; obtain ⟨⟨a0, a1⟩, ⟨e0, e1⟩, ⟨f0, f1⟩, ⟨h0, h1⟩, _⟩ : (_ ∧ _) ∧ (_ ∧ _) ∧ (_ ∧ _) ∧ (_ ∧ _) ∧ True := ⟨hSx.1.1, hSx.2.1.1, hSx.2.2.1.1, hSx.2.2.2.1.1, trivial⟩; go_simp; (try with_reducible rfl))
        (try simp only [Act.put, List.getElem_toArray, List.getElem_cons_succ, List.getElem_cons_zero, List.setIfInBounds_toArray, List.set_cons_succ, List.set_cons_zero])
        refine wpAnyH_ready (rs := [9]) (by kernel_rfl) (by simp) ?_
        refine AllReadyH.cons rfl (fun K hK => ?_) AllReadyH.nil
        rw [if_pos (by rfl)]
        go_simp
        refine (CIE.out _ HH.out.2.2.1.2.1.chs).mono ?_
        rintro e w1 ⟨rfl, hb1⟩
        have HH := Lib.hid (HH.out.next hb1)
        (try simp only [])
        refine hK.out _ _ HH.out (fun hHeld => ?_)
        clear hb1
        clear hK K
        (try simp only [Act.put, List.getElem_toArray, List.getElem_cons_succ, List.getElem_cons_zero, List.setIfInBounds_toArray, List.set_cons_succ, List.set_cons_zero])
        refine wpAnyH_ready (rs := [11]) (by kernel_rfl) (by simp) ?_
        refine AllReadyH.cons rfl (fun K hK => ?_) AllReadyH.nil
        rw [if_pos (by rfl)]
        go_simp
        refine (CSE.out _ HH.out.2.2.1.2.1.chs).mono ?_
        rintro e w1 ⟨rfl, hb1⟩
        have HH := Lib.hid (HH.out.next hb1)
        (try simp only [])
        refine hK.out _ _ HH.out (fun hHeld => ?_)
        clear hb1
        clear hK K
        (try simp only [Act.put, List.getElem_toArray, List.getElem_cons_succ, List.getElem_cons_zero, List.setIfInBounds_toArray, List.set_cons_succ, List.set_cons_zero])
        refine wpAnyH_take (i := 12) (v := ?_) rfl (by kernel_rfl) (by kernel_rfl) (by kernel_rfl) (fun _ _ _ h => h) (Or.inl ⟨by rfl, ?_⟩) hHeld ?_
        rotate_left
        · (intro wx hSx; obtain ⟨⟨a0, a1⟩, ⟨e0, e1⟩, ⟨f0, f1⟩, ⟨h0, h1⟩, _⟩ : (_ ∧ _) ∧ (_ ∧ _) ∧ (_ ∧ _) ∧ (_ ∧ _) ∧ True := ⟨hSx.1.1, hSx.2.1.1, hSx.2.2.1.1, hSx.2.2.2.1.1, trivial⟩; go_simp; (try with_reducible rfl))
        (try simp only [Act.put, List.getElem_toArray, List.getElem_cons_succ, List.getElem_cons_zero, List.setIfInBounds_toArray, List.set_cons_succ, List.set_cons_zero])
        refine wpAnyH_take (i := 13) (v := ?_) rfl (by kernel_rfl) (by kernel_rfl) (by kernel_rfl) (fun _ _ _ h => h) (Or.inl ⟨by rfl, ?_⟩) hHeld ?_
        rotate_left
        · (intro wx hSx; obtain ⟨⟨a0, a1⟩, ⟨e0, e1⟩, ⟨f0, f1⟩, ⟨h0, h1⟩, _⟩ : (_ ∧ _) ∧ (_ ∧ _) ∧ (_ ∧ _) ∧ (_ ∧ _) ∧ True := ⟨hSx.1.1, hSx.2.1.1, hSx.2.2.1.1, hSx.2.2.2.1.1, trivial⟩; go_simp; (try with_reducible rfl))
        (try simp only [Act.put, List.getElem_toArray, List.getElem_cons_succ, List.getElem_cons_zero, List.setIfInBounds_toArray, List.set_cons_succ, List.set_cons_zero])
        refine wpAnyH_take (i := 14) (v := ?_) rfl (by kernel_rfl) (by kernel_rfl) (by kernel_rfl) (fun _ _ _ h => h) (Or.inl ⟨by rfl, ?_⟩) hHeld ?_
        rotate_left
        · (intro wx hSx; obtain ⟨⟨a0, a1⟩, ⟨e0, e1⟩, ⟨f0, f1⟩, ⟨h0, h1⟩, _⟩ : (_ ∧ _) ∧ (_ ∧ _) ∧ (_ ∧ _) ∧ (_ ∧ _) ∧ True := ⟨hSx.1.1, hSx.2.1.1, hSx.2.2.1.1, hSx.2.2.2.1.1, trivial⟩; go_simp; (try with_reducible rfl))
        (try simp only [Act.put, List.getElem_toArray, List.getElem_cons_succ, List.getElem_cons_zero, List.setIfInBounds_toArray, List.set_cons_succ, List.set_cons_zero])
        refine wpAnyH_take (i := 15) (v := ?_) rfl (by kernel_rfl) (by kernel_rfl) (by kernel_rfl) (fun _ _ _ h => h) (Or.inl ⟨by rfl, ?_⟩) hHeld ?_
        rotate_left
        · (intro wx hSx; obtain ⟨⟨a0, a1⟩, ⟨e0, e1⟩, ⟨f0, f1⟩, ⟨h0, h1⟩, _⟩ : (_ ∧ _) ∧ (_ ∧ _) ∧ (_ ∧ _) ∧ (_ ∧ _) ∧ True := ⟨hSx.1.1, hSx.2.1.1, hSx.2.2.1.1, hSx.2.2.2.1.1, trivial⟩; go_simp; (try with_reducible rfl))
        (try simp only [Act.put, List.getElem_toArray, List.getElem_cons_succ, List.getElem_cons_zero, List.setIfInBounds_toArray, List.set_cons_succ, List.set_cons_zero])
        refine wpAnyH_take (i := 17) (v := ?_) rfl (by kernel_rfl) (by kernel_rfl) (by kernel_rfl) (fun _ _ _ h => h) (Or.inl ⟨by rfl, ?_⟩) hHeld ?_
        rotate_left
        · (intro wx hSx; obtain ⟨⟨a0, a1⟩, ⟨e0, e1⟩, ⟨f0, f1⟩, ⟨h0, h1⟩, _⟩ : (_ ∧ _) ∧ (_ ∧ _) ∧ (_ ∧ _) ∧ (_ ∧ _) ∧ True := ⟨hSx.1.1, hSx.2.1.1, hSx.2.2.1.1, hSx.2.2.2.1.1, trivial⟩; go_simp; (try with_reducible rfl))
        (try simp only [Act.put, List.getElem_toArray, List.getElem_cons_succ, List.getElem_cons_zero, List.setIfInBounds_toArray, List.set_cons_succ, List.set_cons_zero])
        refine wpAnyH_ready (rs := [16]) (by kernel_rfl) (by simp) ?_
        refine AllReadyH.cons rfl (fun K hK => ?_) AllReadyH.nil
        rw [if_pos (by rfl)]
        go_simp
        refine (CID.out _ HH.out.2.2.1.2.1.chs).mono ?_
        rintro e w1 ⟨rfl, hb1⟩
        have HH := Lib.hid (HH.out.next hb1)
        (try simp only [])
        refine hK.out _ _ HH.out (fun hHeld => ?_)
        clear hb1
        clear hK K
        (try simp only [Act.put, List.getElem_toArray, List.getElem_cons_succ, List.getElem_cons_zero, List.setIfInBounds_toArray, List.set_cons_succ, List.set_cons_zero])
        refine wpAnyH_ready (rs := [18]) (by kernel_rfl) (by simp) ?_
        refine AllReadyH.cons rfl (fun K hK => ?_) AllReadyH.nil
        rw [if_pos (by rfl)]
        go_simp
        refine (CSD.out _ HH.out.2.2.1.2.1.chs).mono ?_
        rintro e w1 ⟨rfl, hb1⟩
        have HH := Lib.hid (HH.out.next hb1)
        (try simp only [])
        refine hK.out _ _ HH.out (fun hHeld => ?_)
        clear hb1
        clear hK K
        (try simp only [Act.put, List.getElem_toArray, List.getElem_cons_succ, List.getElem_cons_zero, List.setIfInBounds_toArray, List.set_cons_succ, List.set_cons_zero])
        refine wpAnyH_take (i := 19) (v := ?_) rfl (by kernel_rfl) (by kernel_rfl) (by kernel_rfl) (fun _ _ _ h => h) (Or.inl ⟨by rfl, ?_⟩) hHeld ?_
        rotate_left
        · (intro wx hSx; obtain ⟨⟨a0, a1⟩, ⟨e0, e1⟩, ⟨f0, f1⟩, ⟨h0, h1⟩, _⟩ : (_ ∧ _) ∧ (_ ∧ _) ∧ (_ ∧ _) ∧ (_ ∧ _) ∧ True := ⟨hSx.1.1, hSx.2.1.1, hSx.2.2.1.1, hSx.2.2.2.1.1, trivial⟩; go_simp; (try with_reducible rfl))
        (try simp only [Act.put, List.getElem_toArray, List.getElem_cons_succ, List.getElem_cons_zero, List.setIfInBounds_toArray, List.set_cons_succ, List.set_cons_zero])
        refine wpAnyH_take (i := 20) (v := ?_) rfl (by kernel_rfl) (by kernel_rfl) (by kernel_rfl) (fun _ _ _ h => h) (Or.inl ⟨by rfl, ?_⟩) hHeld ?_
        rotate_left
        · (intro wx hSx; obtain ⟨⟨a0, a1⟩, ⟨e0, e1⟩, ⟨f0, f1⟩, ⟨h0, h1⟩, _⟩ : (_ ∧ _) ∧ (_ ∧ _) ∧ (_ ∧ _) ∧ (_ ∧ _) ∧ True := ⟨hSx.1.1, hSx.2.1.1, hSx.2.2.1.1, hSx.2.2.2.1.1, trivial⟩; go_simp; (try with_reducible rfl))
        (try simp only [Act.put, List.getElem_toArray, List.getElem_cons_succ, List.getElem_cons_zero, List.setIfInBounds_toArray, List.set_cons_succ, List.set_cons_zero])
        refine wpAnyH_take (i := 21) (v := ?_) rfl (by kernel_rfl) (by kernel_rfl) (by kernel_rfl) (fun _ _ _ h => h) (Or.inl ⟨by rfl, ?_⟩) hHeld ?_
        rotate_left
        · (intro wx hSx; obtain ⟨⟨a0, a1⟩, ⟨e0, e1⟩, ⟨f0, f1⟩, ⟨h0, h1⟩, _⟩ : (_ ∧ _) ∧ (_ ∧ _) ∧ (_ ∧ _) ∧ (_ ∧ _) ∧ True := ⟨hSx.1.1, hSx.2.1.1, hSx.2.2.1.1, hSx.2.2.2.1.1, trivial⟩; go_simp; (try with_reducible rfl))
        (try simp only [Act.put, List.getElem_toArray, List.getElem_cons_succ, List.getElem_cons_zero, List.setIfInBounds_toArray, List.set_cons_succ, List.set_cons_zero])
        refine wpAnyH_take (i := 22) (v := ?_) rfl (by kernel_rfl) (by kernel_rfl) (by kernel_rfl) (fun _ _ _ h => h) (Or.inl ⟨by rfl, ?_⟩) hHeld ?_
        rotate_left
        · (intro wx hSx; obtain ⟨⟨a0, a1⟩, ⟨e0, e1⟩, ⟨f0, f1⟩, ⟨h0, h1⟩, _⟩ : (_ ∧ _) ∧ (_ ∧ _) ∧ (_ ∧ _) ∧ (_ ∧ _) ∧ True := ⟨hSx.1.1, hSx.2.1.1, hSx.2.2.1.1, hSx.2.2.2.1.1, trivial⟩; go_simp; (try with_reducible rfl))
        (try simp only [Act.put, List.getElem_toArray, List.getElem_cons_succ, List.getElem_cons_zero, List.setIfInBounds_toArray, List.set_cons_succ, List.set_cons_zero])
        refine wpAnyH_take (i := 24) (v := ?_) rfl (by kernel_rfl) (by kernel_rfl) (by kernel_rfl) (fun _ _ _ h => h) (Or.inl ⟨by rfl, ?_⟩) hHeld ?_
        rotate_left
        · (intro wx hSx; obtain ⟨⟨a0, a1⟩, ⟨e0, e1⟩, ⟨f0, f1⟩, ⟨h0, h1⟩, _⟩ : (_ ∧ _) ∧ (_ ∧ _) ∧ (_ ∧ _) ∧ (_ ∧ _) ∧ True := ⟨hSx.1.1, hSx.2.1.1, hSx.2.2.1.1, hSx.2.2.2.1.1, trivial⟩; go_simp; (try with_reducible rfl))
        (try simp only [Act.put, List.getElem_toArray, List.getElem_cons_succ, List.getElem_cons_zero, List.setIfInBounds_toArray, List.set_cons_succ, List.set_cons_zero])
        refine wpAnyH_ready (rs := [23]) (by kernel_rfl) (by simp) ?_
        refine AllReadyH.cons rfl (fun K hK => ?_) AllReadyH.nil
        rw [if_pos (by rfl)]
        go_simp
        refine (CIR.out _ HH.out.2.2.1.2.1.chs).mono ?_
        rintro e w1 ⟨ra, rfl, hor, hb1⟩
        obtain ⟨Ara, cra, rfl, _, hrg⟩ := hor.rgs
        have HRGra := Lib.hid hrg
        clear hor hrg
        have HH := Lib.hid (HH.out.next hb1)
        (try simp only [])
        refine hK.out _ _ HH.out (fun hHeld => ?_)
        clear hb1
        clear hK K
        (try simp only [Act.put, List.getElem_toArray, List.getElem_cons_succ, List.getElem_cons_zero, List.setIfInBounds_toArray, List.set_cons_succ, List.set_cons_zero])
        refine wpAnyH_ready (rs := [25]) (by kernel_rfl) (by simp) ?_
        refine AllReadyH.cons rfl (fun K hK => ?_) AllReadyH.nil
        rw [if_pos (by rfl)]
        go_simp
        refine (CSR.out _ HH.out.2.2.1.2.1.chs).mono ?_
        rintro e w1 ⟨rb, rfl, hor, hb1⟩
        obtain ⟨Arb, crb, rfl, _, hrg⟩ := hor.rgs
        have HRGrb := Lib.hid hrg
        clear hor hrg
        have HH := Lib.hid (HH.out.next hb1)
        (try simp only [])
        refine hK.out _ _ HH.out (fun hHeld => ?_)
        have HRGa := Lib.hid ((HRGra.out.below (Nat.le_refl _) hb1).up hb1.size)
        clear hb1
        clear hK K
        (try simp only [Act.put, List.getElem_toArray, List.getElem_cons_succ, List.getElem_cons_zero, List.setIfInBounds_toArray, List.set_cons_succ, List.set_cons_zero])
        refine wpAnyH_ready (rs := [26]) (by kernel_rfl) (by simp) ?_
        refine AllReadyH.cons rfl (fun K hK => ?_) AllReadyH.nil
        rw [if_pos (by rfl)]
        go_simp
        refine (CRQ.out _ _ _ _ _ HRGa.out HRGrb.out).mono ?_
        rintro e w1 ⟨rfl, hb1⟩
        have HH := Lib.hid (HH.out.next hb1)
        (try simp only [])
        refine hK.out _ _ HH.out (fun hHeld => ?_)
        clear hb1
        clear hK K
        (try simp only [Act.put, List.getElem_toArray, List.getElem_cons_succ, List.getElem_cons_zero, List.setIfInBounds_toArray, List.set_cons_succ, List.set_cons_zero])
        refine wpAnyH_take (i := 27) (v := ?_) rfl (by kernel_rfl) (by kernel_rfl) (by kernel_rfl) (fun _ _ _ h => h) (Or.inl ⟨by rfl, ?_⟩) hHeld ?_
        rotate_left
        · (intro wx hSx; obtain ⟨⟨a0, a1⟩, ⟨e0, e1⟩, ⟨f0, f1⟩, ⟨h0, h1⟩, _⟩ : (_ ∧ _) ∧ (_ ∧ _) ∧ (_ ∧ _) ∧ (_ ∧ _) ∧ True := ⟨hSx.1.1, hSx.2.1.1, hSx.2.2.1.1, hSx.2.2.2.1.1, trivial⟩; go_simp; (try with_reducible rfl))
        (try simp only [Act.put, List.getElem_toArray, List.getElem_cons_succ, List.getElem_cons_zero, List.setIfInBounds_toArray, List.set_cons_succ, List.set_cons_zero])
        refine wpAnyH_take (i := 28) (v := ?_) rfl (by kernel_rfl) (by kernel_rfl) (by kernel_rfl) (fun _ _ _ h => h) (Or.inl ⟨by rfl, ?_⟩) hHeld ?_
        rotate_left
        · (intro wx hSx; obtain ⟨⟨a0, a1⟩, ⟨e0, e1⟩, ⟨f0, f1⟩, ⟨h0, h1⟩, _⟩ : (_ ∧ _) ∧ (_ ∧ _) ∧ (_ ∧ _) ∧ (_ ∧ _) ∧ True := ⟨hSx.1.1, hSx.2.1.1, hSx.2.2.1.1, hSx.2.2.2.1.1, trivial⟩; go_simp; (try with_reducible rfl))
        (try simp only [Act.put, List.getElem_toArray, List.getElem_cons_succ, List.getElem_cons_zero, List.setIfInBounds_toArray, List.set_cons_succ, List.set_cons_zero])
        refine wpAnyH_take (i := 29) (v := ?_) rfl (by kernel_rfl) (by kernel_rfl) (by kernel_rfl) (fun _ _ _ h => h) (Or.inl ⟨by rfl, ?_⟩) hHeld ?_
        rotate_left
        · (intro wx hSx; obtain ⟨⟨a0, a1⟩, ⟨e0, e1⟩, ⟨f0, f1⟩, ⟨h0, h1⟩, _⟩ : (_ ∧ _) ∧ (_ ∧ _) ∧ (_ ∧ _) ∧ (_ ∧ _) ∧ True := ⟨hSx.1.1, hSx.2.1.1, hSx.2.2.1.1, hSx.2.2.2.1.1, trivial⟩; go_simp; (try with_reducible rfl))
        (try simp only [Act.put, List.getElem_toArray, List.getElem_cons_succ, List.getElem_cons_zero, List.setIfInBounds_toArray, List.set_cons_succ, List.set_cons_zero])
        refine wpAnyH_take (i := 30) (v := ?_) rfl (by kernel_rfl) (by kernel_rfl) (by kernel_rfl) (fun _ _ _ h => h) (Or.inl ⟨by rfl, ?_⟩) hHeld ?_
        rotate_left
        · (intro wx hSx; obtain ⟨⟨a0, a1⟩, ⟨e0, e1⟩, ⟨f0, f1⟩, ⟨h0, h1⟩, _⟩ : (_ ∧ _) ∧ (_ ∧ _) ∧ (_ ∧ _) ∧ (_ ∧ _) ∧ True := ⟨hSx.1.1, hSx.2.1.1, hSx.2.2.1.1, hSx.2.2.2.1.1, trivial⟩; go_simp; (try with_reducible rfl))
        (try simp only [Act.put, List.getElem_toArray, List.getElem_cons_succ, List.getElem_cons_zero, List.setIfInBounds_toArray, List.set_cons_succ, List.set_cons_zero])
        refine wpAnyH_take (i := 32) (v := ?_) rfl (by kernel_rfl) (by kernel_rfl) (by kernel_rfl) (fun _ _ _ h => h) (Or.inl ⟨by rfl, ?_⟩) hHeld ?_
        rotate_left
        · (intro wx hSx; obtain ⟨⟨a0, a1⟩, ⟨e0, e1⟩, ⟨f0, f1⟩, ⟨h0, h1⟩, _⟩ : (_ ∧ _) ∧ (_ ∧ _) ∧ (_ ∧ _) ∧ (_ ∧ _) ∧ True := ⟨hSx.1.1, hSx.2.1.1, hSx.2.2.1.1, hSx.2.2.2.1.1, trivial⟩; go_simp; (try with_reducible rfl))
        (try simp only [Act.put, List.getElem_toArray, List.getElem_cons_succ, List.getElem_cons_zero, List.setIfInBounds_toArray, List.set_cons_succ, List.set_cons_zero])
        refine wpAnyH_take (i := 33) (v := ?_) rfl (by kernel_rfl) (by kernel_rfl) (by kernel_rfl) (fun _ _ _ h => h) (Or.inl ⟨by rfl, ?_⟩) hHeld ?_
        rotate_left
        · (intro wx hSx; obtain ⟨⟨a0, a1⟩, ⟨e0, e1⟩, ⟨f0, f1⟩, ⟨h0, h1⟩, _⟩ : (_ ∧ _) ∧ (_ ∧ _) ∧ (_ ∧ _) ∧ (_ ∧ _) ∧ True := ⟨hSx.1.1, hSx.2.1.1, hSx.2.2.1.1, hSx.2.2.2.1.1, trivial⟩; go_simp; (try with_reducible rfl))
        (try simp only [Act.put, List.getElem_toArray, List.getElem_cons_succ, List.getElem_cons_zero, List.setIfInBounds_toArray, List.set_cons_succ, List.set_cons_zero])
        refine wpAnyH_ready (rs := [31]) (by kernel_rfl) (by simp) ?_
        refine AllReadyH.cons rfl (fun K hK => ?_) AllReadyH.nil
        rw [if_pos (by rfl)]
        go_simp
        refine (CIA.out _ HH.out.2.2.2.1.2.1.chs).mono ?_
        rintro e w1 ⟨rfl, hb1⟩
        have HH := Lib.hid (HH.out.next hb1)
        (try simp only [])
        refine hK.out _ _ HH.out (fun hHeld => ?_)
        clear hb1
        clear hK K
        (try simp only [Act.put, List.getElem_toArray, List.getElem_cons_succ, List.getElem_cons_zero, List.setIfInBounds_toArray, List.set_cons_succ, List.set_cons_zero])
        refine wpAnyH_ready (rs := [34]) (by kernel_rfl) (by simp) ?_
        refine AllReadyH.cons rfl (fun K hK => ?_) AllReadyH.nil
        rw [if_pos (by rfl)]
        go_simp
        refine (CSA.out _ HH.out.2.2.2.1.2.1.chs).mono ?_
        rintro e w1 ⟨rfl, hb1⟩
        have HH := Lib.hid (HH.out.next hb1)
        (try simp only [])
        refine hK.out _ _ HH.out (fun hHeld => ?_)
        clear hb1
        clear hK K
        (try simp only [Act.put, List.getElem_toArray, List.getElem_cons_succ, List.getElem_cons_zero, List.setIfInBounds_toArray, List.set_cons_succ, List.set_cons_zero])
        refine wpAnyH_take (i := 35) (v := ?_) rfl (by kernel_rfl) (by kernel_rfl) (by kernel_rfl) (fun _ _ _ h => h) (Or.inl ⟨by rfl, ?_⟩) hHeld ?_
        rotate_left
        · (intro wx hSx; obtain ⟨⟨a0, a1⟩, ⟨e0, e1⟩, ⟨f0, f1⟩, ⟨h0, h1⟩, _⟩ : (_ ∧ _) ∧ (_ ∧ _) ∧ (_ ∧ _) ∧ (_ ∧ _) ∧ True := ⟨hSx.1.1, hSx.2.1.1, hSx.2.2.1.1, hSx.2.2.2.1.1, trivial⟩; go_simp; (try with_reducible rfl))
        (try simp only [Act.put, List.getElem_toArray, List.getElem_cons_succ, List.getElem_cons_zero, List.setIfInBounds_toArray, List.set_cons_succ, List.set_cons_zero])
        refine wpAnyH_take (i := 36) (v := ?_) rfl (by kernel_rfl) (by kernel_rfl) (by kernel_rfl) (fun _ _ _ h => h) (Or.inl ⟨by rfl, ?_⟩) hHeld ?_
        rotate_left
        · (intro wx hSx; obtain ⟨⟨a0, a1⟩, ⟨e0, e1⟩, ⟨f0, f1⟩, ⟨h0, h1⟩, _⟩ : (_ ∧ _) ∧ (_ ∧ _) ∧ (_ ∧ _) ∧ (_ ∧ _) ∧ True := ⟨hSx.1.1, hSx.2.1.1, hSx.2.2.1.1, hSx.2.2.2.1.1, trivial⟩; go_simp; (try with_reducible rfl))
        (try simp only [Act.put, List.getElem_toArray, List.getElem_cons_succ, List.getElem_cons_zero, List.setIfInBounds_toArray, List.set_cons_succ, List.set_cons_zero])
        refine wpAnyH_take (i := 37) (v := ?_) rfl (by kernel_rfl) (by kernel_rfl) (by kernel_rfl) (fun _ _ _ h => h) (Or.inl ⟨by rfl, ?_⟩) hHeld ?_
        rotate_left
        · (intro wx hSx; obtain ⟨⟨a0, a1⟩, ⟨e0, e1⟩, ⟨f0, f1⟩, ⟨h0, h1⟩, _⟩ : (_ ∧ _) ∧ (_ ∧ _) ∧ (_ ∧ _) ∧ (_ ∧ _) ∧ True := ⟨hSx.1.1, hSx.2.1.1, hSx.2.2.1.1, hSx.2.2.2.1.1, trivial⟩; go_simp; (try with_reducible rfl))
        (try simp only [Act.put, List.getElem_toArray, List.getElem_cons_succ, List.getElem_cons_zero, List.setIfInBounds_toArray, List.set_cons_succ, List.set_cons_zero])
        refine wpAnyH_done (by kernel_rfl) ?_ _
        clear hHeld
        go_wp2
        go_ret
        exact ⟨rfl, HH.out.2.2.2.2⟩
end Go.Proofs.Ytmaaldmakgjplaa
