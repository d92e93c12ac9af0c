/-
  What spec.l4Stream returns, for each form of the type.
-/
import Derived.Test.YtjbppociogoopaaDoorSFr6
namespace Go.Proofs.YtjbppociogoopaaDoor
open Go.RowKit Go.Deep Go.Proofs.YtjbppociogoopaaDoor.Num

set_option maxRecDepth 100000 in
set_option maxHeartbeats 2000000 in
theorem sstream_11 (s : ByteArray) (a c : Nat) (w : World) (hs : s.size ≤ 1048576) (ha : a ≤ s.size) (hc : 8 ≤ c ∧ c < 16) (h4 : c / 4 % 2 = 1) (h2 : c / 2 % 2 = 1) :
    Calls Tryd.prog 60 #[.string s, .int .i64 a, .int .i64 c] w (FrP a (decS c (s.data.toList.drop a)) w) := by
  have h3 : s.data.toList.length = s.size := by simp
  have hmx : s.size ≤ maxLen := by unfold maxLen; omega
  obtain ⟨b1, hb1⟩ : ∃ b1 : Bool, decide (c % 2 = 1) = b1 := ⟨_, rfl⟩
  have k1 : (bits .and .i64 (c : Int) 1 == 1) = b1 := by rw [← hb1]; rcases (show c = 8 ∨ c = 9 ∨ c = 10 ∨ c = 11 ∨ c = 12 ∨ c = 13 ∨ c = 14 ∨ c = 15 by omega) with rfl | rfl | rfl | rfl | rfl | rfl | rfl | rfl <;> decide
  have k4 : (bits .and .i64 (c : Int) 4 == 4) = true := by rcases (show c = 8 ∨ c = 9 ∨ c = 10 ∨ c = 11 ∨ c = 12 ∨ c = 13 ∨ c = 14 ∨ c = 15 by omega) with rfl | rfl | rfl | rfl | rfl | rfl | rfl | rfl <;> first | decide | omega
  have k2 : (bits .and .i64 (c : Int) 2 == 2) = true := by rcases (show c = 8 ∨ c = 9 ∨ c = 10 ∨ c = 11 ∨ c = 12 ∨ c = 13 ∨ c = 14 ∨ c = 15 by omega) with rfl | rfl | rfl | rfl | rfl | rfl | rfl | rfl <;> first | decide | omega
  have HC := Lib.hid (And.intro hb1 (And.intro h4 h2))
  have hrn : (if c / 4 % 2 = 1 then 2 else 1) = 2 := by rw [if_pos h4]
  have HN := Lib.hid hrn
  have H0 := Lib.hid (HeldS.start w ⟨8, 0, 0, ⟨#[]⟩, b1, 0, 0, 0, false⟩)
  have HRD : Hid (∀ W, Calls Tryd.prog 61 #[.string s, .int .i64 a, .int .i64 2] W (ReadP (s.data.toList.drop a) a 2 W)) := Lib.hid fun W => sread s a 2 W hs (by decide)
  clear hb1 h4 h2 hc hrn
  go_enter Tryd.func60, Tryd.ntmps60
  go_wp2_with fail
  refine (HRD.out _).mono ?_
  rintro e w1 ⟨hres, hb⟩
  have H1 := Lib.hid (H0.out.next hb)
  have hsz0 : w.heap.size + 1 + 1 ≤ ((w.alloc (.cells (frC fr0) 25)).alloc (.cells (frC ⟨8, 0, 0, ⟨#[]⟩, b1, 0, 0, 0, false⟩) 25)).heap.size := by simp
  clear hb HRD
  rcases hres with ⟨l, m, A, cap, hrd, hln, rfl, hcap, hia⟩ | ⟨hno, A, cap, rfl, hcap, hia⟩
  · obtain ⟨y0, y1, rfl⟩ : ∃ y0 y1, l = [y0, y1] := by
      match l, hln with
      | [y0, y1], _ => exact ⟨y0, y1, rfl⟩
    obtain ⟨g, rfl, hlo, hgs, hcl⟩ : ∃ g, A = some ⟨g, 0, none⟩ ∧ _ ∧ g < w1.heap.size ∧ ∀ j (hj : j < [y0, y1].length), w1.cell? ⟨g, j, none⟩ = some (.int .i64 ([y0, y1][j]'hj)) := hia.resolve_left (by simp)
    have hgn : w.heap.size + 1 ≠ g := by
      have h := Nat.le_trans hsz0 hlo
      omega
    have c0 := hcl 0 (by simp)
    have c1 := hcl 1 (by simp)
    have hml : m ≤ (s.data.toList.drop a).length := (readN_len _ _ _ _ hrd).2.1
    rw [List.length_drop, h3] at hml
    have HRD := Lib.hid (show readN (if c / 4 % 2 = 1 then 2 else 1) (s.data.toList.drop a) = some ([y0, y1], m) by rw [HN.out]; exact hrd)
    dsimp only [List.getElem_cons_zero, List.getElem_cons_succ] at c0 c1
    clear hcl hia hrd hln hlo hsz0
    obtain ⟨p, hp⟩ : ∃ p, a + m = p := ⟨_, rfl⟩
    have HP := Lib.hid hp
    have hps : p ≤ s.size := by omega
    have wr1 : wrap64 ((s.size : Int) - (p : Int)) = (s.size : Int) - (p : Int) := by unfold wrap64; omega
    rw [hp]
    clear hp
    obtain ⟨x0, x1, x2, x3, x4, x5, x6, x7, x8⟩ := H1.out.2.1.cells
    have fz := H1.out.2.1.free
    dsimp only at x0 x1 x2 x3 x4 x5 x6 x7 x8
    have hone : ((1 : Int) < 2) = (True) := by simp
    clear hone
    go_upto_region 9 with fail
    have H2 := Lib.hid (H1.out.st1 y0)
    have c0' := H1.out.cell hgn 1 0 (.int .i64 y0) _ c0
    have c1' := H1.out.cell hgn 1 1 (.int .i64 y0) _ c1
    clear c1
    clear x0 x1 x2 x3 x4 x5 x6 x7 x8 fz H1 c0
    generalize w1.setCell ⟨w.heap.size + 1, 1, none⟩ (.int .i64 y0) = w2 at *
    obtain ⟨x0, x1, x2, x3, x4, x5, x6, x7, x8⟩ := H2.out.2.1.cells
    have fz := H2.out.2.1.free
    dsimp only at x0 x1 x2 x3 x4 x5 x6 x7 x8
    go_upto_region 11 with fail
    have H3 := Lib.hid (H2.out.st2 y1)
    clear x0 x1 x2 x3 x4 x5 x6 x7 x8 fz H2 c0' c1'
    generalize w2.setCell ⟨w.heap.size + 1, 2, none⟩ (.int .i64 y1) = w3 at *
    obtain ⟨x0, x1, x2, x3, x4, x5, x6, x7, x8⟩ := H3.out.2.1.cells
    have fz := H3.out.2.1.free
    dsimp only at x0 x1 x2 x3 x4 x5 x6 x7 x8
    cases hd : decL (s.data.toList.drop p) with
    | none =>
      have HQ := Lib.hid (sdecq_no s (p : Int) w3 hmx (Or.inr (by rw [Int.toNat_natCast]; exact hd)))
      have HE := Lib.hid (decS_bad HRD.out HC.out.2.2 (by rw [List.drop_drop, HP.out]; exact hd))
      clear hd
      go_wp2_with fail
      refine HQ.out.mono ?_
      rintro e wq ⟨rfl, rfl⟩
      obtain ⟨r0, r1, r2, r3, r4, r5, r6, r7, r8⟩ := H3.out.1.cells
      have rz := H3.out.1.free
      go_wp2
      refine bodyPost_ret (results_frame rfl _ _ w.heap.size _ _ _ _ rfl (H3.out.1.all fr0) Tryd.underlying25 rfl (by kernel_rfl)) rfl ?_
      exact ⟨by rw [HE.out]; rfl, setAll_below H3.out.2.2.1 (Nat.le_refl _) fr0⟩
    | some nk =>
      obtain ⟨x, k⟩ := nk
      have HQ := Lib.hid (sdecq_yes s p x k w3 hmx hd)
      have hd1 : decL ((s.data.toList.drop a).drop m) = some (x, k) := by rw [List.drop_drop, HP.out]; exact hd
      have hdl := (decL_some hd).2.1
      rw [List.length_drop, h3] at hdl
      have hk8 := (decL_some hd).1
      obtain ⟨q, hq⟩ : ∃ q, p + k = q := ⟨_, rfl⟩
      rw [hq] at HQ
      have HQQ := Lib.hid hq
      have hqs : q ≤ s.size := by omega
      have WR2 := Lib.hid (show wrap64 ((s.size : Int) - (q : Int)) = (s.size : Int) - (q : Int) by unfold wrap64; omega)
      have hal : (s.data.toList.drop a).length - (m + k) = s.size - q := by rw [List.length_drop, h3]; have := HP.out; omega
      by_cases hx : x ≤ s.size - q
      · have HE := Lib.hid (decS_len HRD.out HC.out.2.2 hd1 (by rw [hal]; exact hx))
        have hxd : decide ((s.size : Int) - (q : Int) < (x : Int)) = false := decide_eq_false (by omega)
        have s0 : (0 : Int) ≤ (q : Int) := by omega
        obtain ⟨r, hr⟩ : ∃ r, q + x = r := ⟨_, rfl⟩
        have s1 : (q : Int) ≤ (r : Int) := by omega
        have s2 : (r : Int) ≤ (s.size : Int) := by omega
        have WR3 := Lib.hid (show wrap64 ((q : Int) + (x : Int)) = (r : Int) by clear wr1; unfold wrap64; omega)
        have HR := Lib.hid hr
        clear hr
        clear hd hd1 hdl hk8 hq hal hx
        go_wp2_with fail
        refine HQ.out.mono ?_
        rintro e wq ⟨rfl, rfl⟩
        clear wr1
        have wr2 := WR2.out
        go_upto_region 16 with fail
        clear wr2
        have wr3 := WR3.out
        go_upto_region 19 with fail
        have H4 := Lib.hid (H3.out.st3 (s.extract q r))
        clear x0 x1 x2 x3 x4 x5 x6 x7 x8 fz H3
        generalize w3.setCell ⟨w.heap.size + 1, 3, none⟩ (.string (s.extract q r)) = w4 at *
        obtain ⟨x0, x1, x2, x3, x4, x5, x6, x7, x8⟩ := H4.out.2.1.cells
        have fz := H4.out.2.1.free
        dsimp only at x0 x1 x2 x3 x4 x5 x6 x7 x8
        have HE := Lib.hid (HE.out.trans (by
            have e1 : (s.data.toList.drop a).drop (m + k) = s.data.toList.drop q := by rw [List.drop_drop]; congr 1; have h1 := HP.out; have h2 := HQQ.out; clear wr3; omega
            rw [e1, show sFr c [y0, y1] ((s.data.toList.drop q).take x) = ⟨8, y0, y1, s.extract q r, b1, 0, 0, 0, false⟩ by unfold sFr; rw [← ext_take, HR.out, if_pos HC.out.2.1, HC.out.1]; rfl]))
        have HI := Lib.hid (sisf ⟨8, y0, y1, s.extract q r, b1, 0, 0, 0, false⟩)
        by_cases hok : okF ⟨8, y0, y1, s.extract q r, b1, 0, 0, 0, false⟩
        · rw [decide_eq_true hok] at HI
          have HK := Lib.hid (HE.out.trans (chkF_some _ hok))
          clear hok
          go_wp2_with fail
          refine (HI.out _).mono ?_
          rintro e wf ⟨rfl, hbf⟩
          have HF := Lib.hid (H4.out.next hbf)
          clear hbf x0 x1 x2 x3 x4 x5 x6 x7 x8 fz
          obtain ⟨r0, r1, r2, r3, r4, r5, r6, r7, r8⟩ := HF.out.1.cells
          have rz := HF.out.1.free
          obtain ⟨x0, x1, x2, x3, x4, x5, x6, x7, x8⟩ := HF.out.2.1.cells
          dsimp only at x0 x1 x2 x3 x4 x5 x6 x7 x8
          go_wp2
          refine bodyPost_ret (results_frame rfl _ _ w.heap.size _ _ _ _ rfl (HF.out.1.all ⟨8, y0, y1, s.extract q r, b1, 0, 0, 0, false⟩) Tryd.underlying25 rfl (by kernel_rfl)) rfl ?_
          refine ⟨?_, setAll_below HF.out.2.2.1 (Nat.le_refl _) ⟨8, y0, y1, s.extract q r, b1, 0, 0, 0, false⟩⟩
          rw [HK.out]
          show _ = Ending.returned (.tuple #[frV ⟨8, y0, y1, s.extract q r, b1, 0, 0, 0, false⟩, .int .i64 ((a + (m + k + x) : Nat) : Int), .bool true])
          have hq9 : ((a + (m + k + x) : Nat) : Int) = (r : Int) := by have h1 := HP.out; have h2 := HQQ.out; have h3 := HR.out; clear wr3; omega
          rw [hq9, ← WR3.out]
          rfl
        · rw [decide_eq_false hok] at HI
          have HK := Lib.hid (HE.out.trans (chkF_none _ hok))
          clear hok
          go_wp2_with fail
          refine (HI.out _).mono ?_
          rintro e wf ⟨rfl, hbf⟩
          have HF := Lib.hid (H4.out.next hbf)
          clear hbf x0 x1 x2 x3 x4 x5 x6 x7 x8 fz
          obtain ⟨r0, r1, r2, r3, r4, r5, r6, r7, r8⟩ := HF.out.1.cells
          have rz := HF.out.1.free
          go_wp2
          refine bodyPost_ret (results_frame rfl _ _ w.heap.size _ _ _ _ rfl (HF.out.1.all fr0) Tryd.underlying25 rfl (by kernel_rfl)) rfl ?_
          exact ⟨by rw [HK.out]; rfl, setAll_below HF.out.2.2.1 (Nat.le_refl _) fr0⟩
      · have HE := Lib.hid (decS_long HRD.out HC.out.2.2 hd1 (by rw [hal]; exact hx))
        have hxd : decide ((s.size : Int) - (q : Int) < (x : Int)) = true := decide_eq_true (by omega)
        clear hd hd1 hdl hk8 hq hal hx
        go_wp2_with fail
        refine HQ.out.mono ?_
        rintro e wq ⟨rfl, rfl⟩
        clear wr1
        have wr2 := WR2.out
        obtain ⟨r0, r1, r2, r3, r4, r5, r6, r7, r8⟩ := H3.out.1.cells
        have rz := H3.out.1.free
        go_wp2
        refine bodyPost_ret (results_frame rfl _ _ w.heap.size _ _ _ _ rfl (H3.out.1.all fr0) Tryd.underlying25 rfl (by kernel_rfl)) rfl ?_
        exact ⟨by rw [HE.out]; rfl, setAll_below H3.out.2.2.1 (Nat.le_refl _) fr0⟩
  · have HE := Lib.hid (decS_none (show readN (if c / 4 % 2 = 1 then 2 else 1) (s.data.toList.drop a) = none by rw [HN.out]; exact hno))
    clear hno hia hcap
    obtain ⟨r0, r1, r2, r3, r4, r5, r6, r7, r8⟩ := H1.out.1.cells
    have rz := H1.out.1.free
    go_wp2
    refine bodyPost_ret (results_frame rfl _ _ w.heap.size _ _ _ _ rfl (H1.out.1.all fr0) Tryd.underlying25 rfl (by kernel_rfl)) rfl ?_
    exact ⟨by rw [HE.out]; rfl, setAll_below H1.out.2.2.1 (Nat.le_refl _) fr0⟩

set_option maxRecDepth 100000 in
set_option maxHeartbeats 2000000 in
theorem sstream_10 (s : ByteArray) (a c : Nat) (w : World) (hs : s.size ≤ 1048576) (ha : a ≤ s.size) (hc : 8 ≤ c ∧ c < 16) (h4 : c / 4 % 2 = 1) (h2 : ¬ c / 2 % 2 = 1) :
    Calls Tryd.prog 60 #[.string s, .int .i64 a, .int .i64 c] w (FrP a (decS c (s.data.toList.drop a)) w) := by
  have h3 : s.data.toList.length = s.size := by simp
  have hmx : s.size ≤ maxLen := by unfold maxLen; omega
  obtain ⟨b1, hb1⟩ : ∃ b1 : Bool, decide (c % 2 = 1) = b1 := ⟨_, rfl⟩
  have k1 : (bits .and .i64 (c : Int) 1 == 1) = b1 := by rw [← hb1]; rcases (show c = 8 ∨ c = 9 ∨ c = 10 ∨ c = 11 ∨ c = 12 ∨ c = 13 ∨ c = 14 ∨ c = 15 by omega) with rfl | rfl | rfl | rfl | rfl | rfl | rfl | rfl <;> decide
  have k4 : (bits .and .i64 (c : Int) 4 == 4) = true := by rcases (show c = 8 ∨ c = 9 ∨ c = 10 ∨ c = 11 ∨ c = 12 ∨ c = 13 ∨ c = 14 ∨ c = 15 by omega) with rfl | rfl | rfl | rfl | rfl | rfl | rfl | rfl <;> first | decide | omega
  have k2 : (bits .and .i64 (c : Int) 2 == 2) = false := by rcases (show c = 8 ∨ c = 9 ∨ c = 10 ∨ c = 11 ∨ c = 12 ∨ c = 13 ∨ c = 14 ∨ c = 15 by omega) with rfl | rfl | rfl | rfl | rfl | rfl | rfl | rfl <;> first | decide | omega
  have HC := Lib.hid (And.intro hb1 (And.intro h4 h2))
  have hrn : (if c / 4 % 2 = 1 then 2 else 1) = 2 := by rw [if_pos h4]
  have HN := Lib.hid hrn
  have H0 := Lib.hid (HeldS.start w ⟨8, 0, 0, ⟨#[]⟩, b1, 0, 0, 0, false⟩)
  have HRD : Hid (∀ W, Calls Tryd.prog 61 #[.string s, .int .i64 a, .int .i64 2] W (ReadP (s.data.toList.drop a) a 2 W)) := Lib.hid fun W => sread s a 2 W hs (by decide)
  clear hb1 h4 h2 hc hrn
  go_enter Tryd.func60, Tryd.ntmps60
  go_wp2_with fail
  refine (HRD.out _).mono ?_
  rintro e w1 ⟨hres, hb⟩
  have H1 := Lib.hid (H0.out.next hb)
  have hsz0 : w.heap.size + 1 + 1 ≤ ((w.alloc (.cells (frC fr0) 25)).alloc (.cells (frC ⟨8, 0, 0, ⟨#[]⟩, b1, 0, 0, 0, false⟩) 25)).heap.size := by simp
  clear hb HRD
  rcases hres with ⟨l, m, A, cap, hrd, hln, rfl, hcap, hia⟩ | ⟨hno, A, cap, rfl, hcap, hia⟩
  · obtain ⟨y0, y1, rfl⟩ : ∃ y0 y1, l = [y0, y1] := by
      match l, hln with
      | [y0, y1], _ => exact ⟨y0, y1, rfl⟩
    obtain ⟨g, rfl, hlo, hgs, hcl⟩ : ∃ g, A = some ⟨g, 0, none⟩ ∧ _ ∧ g < w1.heap.size ∧ ∀ j (hj : j < [y0, y1].length), w1.cell? ⟨g, j, none⟩ = some (.int .i64 ([y0, y1][j]'hj)) := hia.resolve_left (by simp)
    have hgn : w.heap.size + 1 ≠ g := by
      have h := Nat.le_trans hsz0 hlo
      omega
    have c0 := hcl 0 (by simp)
    have c1 := hcl 1 (by simp)
    have hml : m ≤ (s.data.toList.drop a).length := (readN_len _ _ _ _ hrd).2.1
    rw [List.length_drop, h3] at hml
    have HRD := Lib.hid (show readN (if c / 4 % 2 = 1 then 2 else 1) (s.data.toList.drop a) = some ([y0, y1], m) by rw [HN.out]; exact hrd)
    dsimp only [List.getElem_cons_zero, List.getElem_cons_succ] at c0 c1
    clear hcl hia hrd hln hlo hsz0
    obtain ⟨p, hp⟩ : ∃ p, a + m = p := ⟨_, rfl⟩
    have HP := Lib.hid hp
    have hps : p ≤ s.size := by omega
    have wr1 : wrap64 ((s.size : Int) - (p : Int)) = (s.size : Int) - (p : Int) := by unfold wrap64; omega
    rw [hp]
    clear hp
    obtain ⟨x0, x1, x2, x3, x4, x5, x6, x7, x8⟩ := H1.out.2.1.cells
    have fz := H1.out.2.1.free
    dsimp only at x0 x1 x2 x3 x4 x5 x6 x7 x8
    have hone : ((1 : Int) < 2) = (True) := by simp
    clear hone
    go_upto_region 9 with fail
    have H2 := Lib.hid (H1.out.st1 y0)
    have c0' := H1.out.cell hgn 1 0 (.int .i64 y0) _ c0
    have c1' := H1.out.cell hgn 1 1 (.int .i64 y0) _ c1
    clear c1
    clear x0 x1 x2 x3 x4 x5 x6 x7 x8 fz H1 c0
    generalize w1.setCell ⟨w.heap.size + 1, 1, none⟩ (.int .i64 y0) = w2 at *
    obtain ⟨x0, x1, x2, x3, x4, x5, x6, x7, x8⟩ := H2.out.2.1.cells
    have fz := H2.out.2.1.free
    dsimp only at x0 x1 x2 x3 x4 x5 x6 x7 x8
    go_upto_region 11 with fail
    have H3 := Lib.hid (H2.out.st2 y1)
    clear x0 x1 x2 x3 x4 x5 x6 x7 x8 fz H2 c0' c1'
    generalize w2.setCell ⟨w.heap.size + 1, 2, none⟩ (.int .i64 y1) = w3 at *
    obtain ⟨x0, x1, x2, x3, x4, x5, x6, x7, x8⟩ := H3.out.2.1.cells
    have fz := H3.out.2.1.free
    dsimp only at x0 x1 x2 x3 x4 x5 x6 x7 x8
    obtain ⟨z, hz⟩ : ∃ z, s.size - p = z := ⟨_, rfl⟩
    have HZ := Lib.hid hz
    have hzi : (s.size : Int) - (p : Int) = (z : Int) := by omega
    rw [hzi] at wr1
    obtain ⟨r, hr⟩ : ∃ r, p + z = r := ⟨_, rfl⟩
    have s0 : (0 : Int) ≤ (p : Int) := by omega
    have s1 : (p : Int) ≤ (r : Int) := by omega
    have s2 : (r : Int) ≤ (s.size : Int) := by clear wr1; omega
    have WR3 := Lib.hid (show wrap64 ((p : Int) + (z : Int)) = (r : Int) by clear wr1; unfold wrap64; omega)
    have HR := Lib.hid hr
    clear hr
    have HE := Lib.hid (decS_open HRD.out HC.out.2.2)
    clear hz
    go_upto_region 18 with fail
    clear wr1 hzi
    have wr3 := WR3.out
    go_upto_region 19 with fail
    have H4 := Lib.hid (H3.out.st3 (s.extract p r))
    clear x0 x1 x2 x3 x4 x5 x6 x7 x8 fz H3
    generalize w3.setCell ⟨w.heap.size + 1, 3, none⟩ (.string (s.extract p r)) = w4 at *
    obtain ⟨x0, x1, x2, x3, x4, x5, x6, x7, x8⟩ := H4.out.2.1.cells
    have fz := H4.out.2.1.free
    dsimp only at x0 x1 x2 x3 x4 x5 x6 x7 x8
    have HE := Lib.hid (HE.out.trans (by
        have e1 : (s.data.toList.drop a).drop m = (s.data.toList.drop p).take z := by
          rw [List.drop_drop, HP.out, List.take_of_length_le]
          rw [List.length_drop, h3, HZ.out]
          exact Nat.le_refl _
        rw [e1, show sFr c [y0, y1] ((s.data.toList.drop p).take z) = ⟨8, y0, y1, s.extract p r, b1, 0, 0, 0, false⟩ by unfold sFr; rw [← ext_take, HR.out, if_pos HC.out.2.1, HC.out.1]; rfl]))
    have HI := Lib.hid (sisf ⟨8, y0, y1, s.extract p r, b1, 0, 0, 0, false⟩)
    by_cases hok : okF ⟨8, y0, y1, s.extract p r, b1, 0, 0, 0, false⟩
    · rw [decide_eq_true hok] at HI
      have HK := Lib.hid (HE.out.trans (chkF_some _ hok))
      clear hok
      go_wp2_with fail
      refine (HI.out _).mono ?_
      rintro e wf ⟨rfl, hbf⟩
      have HF := Lib.hid (H4.out.next hbf)
      clear hbf x0 x1 x2 x3 x4 x5 x6 x7 x8 fz
      obtain ⟨r0, r1, r2, r3, r4, r5, r6, r7, r8⟩ := HF.out.1.cells
      have rz := HF.out.1.free
      obtain ⟨x0, x1, x2, x3, x4, x5, x6, x7, x8⟩ := HF.out.2.1.cells
      dsimp only at x0 x1 x2 x3 x4 x5 x6 x7 x8
      go_wp2
      refine bodyPost_ret (results_frame rfl _ _ w.heap.size _ _ _ _ rfl (HF.out.1.all ⟨8, y0, y1, s.extract p r, b1, 0, 0, 0, false⟩) Tryd.underlying25 rfl (by kernel_rfl)) rfl ?_
      refine ⟨?_, setAll_below HF.out.2.2.1 (Nat.le_refl _) ⟨8, y0, y1, s.extract p r, b1, 0, 0, 0, false⟩⟩
      rw [HK.out]
      show _ = Ending.returned (.tuple #[frV ⟨8, y0, y1, s.extract p r, b1, 0, 0, 0, false⟩, .int .i64 ((a + (s.data.toList.drop a).length : Nat) : Int), .bool true])
      have hq9 : ((a + (s.data.toList.drop a).length : Nat) : Int) = (r : Int) := by rw [List.length_drop, h3]; have h1 := HP.out; have h2 := HZ.out; have h4 := HR.out; clear wr3; omega
      rw [hq9, ← WR3.out]
      rfl
    · rw [decide_eq_false hok] at HI
      have HK := Lib.hid (HE.out.trans (chkF_none _ hok))
      clear hok
      go_wp2_with fail
      refine (HI.out _).mono ?_
      rintro e wf ⟨rfl, hbf⟩
      have HF := Lib.hid (H4.out.next hbf)
      clear hbf x0 x1 x2 x3 x4 x5 x6 x7 x8 fz
      obtain ⟨r0, r1, r2, r3, r4, r5, r6, r7, r8⟩ := HF.out.1.cells
      have rz := HF.out.1.free
      go_wp2
      refine bodyPost_ret (results_frame rfl _ _ w.heap.size _ _ _ _ rfl (HF.out.1.all fr0) Tryd.underlying25 rfl (by kernel_rfl)) rfl ?_
      exact ⟨by rw [HK.out]; rfl, setAll_below HF.out.2.2.1 (Nat.le_refl _) fr0⟩
  · have HE := Lib.hid (decS_none (show readN (if c / 4 % 2 = 1 then 2 else 1) (s.data.toList.drop a) = none by rw [HN.out]; exact hno))
    clear hno hia hcap
    obtain ⟨r0, r1, r2, r3, r4, r5, r6, r7, r8⟩ := H1.out.1.cells
    have rz := H1.out.1.free
    go_wp2
    refine bodyPost_ret (results_frame rfl _ _ w.heap.size _ _ _ _ rfl (H1.out.1.all fr0) Tryd.underlying25 rfl (by kernel_rfl)) rfl ?_
    exact ⟨by rw [HE.out]; rfl, setAll_below H1.out.2.2.1 (Nat.le_refl _) fr0⟩

set_option maxRecDepth 100000 in
set_option maxHeartbeats 2000000 in
theorem sstream_01 (s : ByteArray) (a c : Nat) (w : World) (hs : s.size ≤ 1048576) (ha : a ≤ s.size) (hc : 8 ≤ c ∧ c < 16) (h4 : ¬ c / 4 % 2 = 1) (h2 : c / 2 % 2 = 1) :
    Calls Tryd.prog 60 #[.string s, .int .i64 a, .int .i64 c] w (FrP a (decS c (s.data.toList.drop a)) w) := by
  have h3 : s.data.toList.length = s.size := by simp
  have hmx : s.size ≤ maxLen := by unfold maxLen; omega
  obtain ⟨b1, hb1⟩ : ∃ b1 : Bool, decide (c % 2 = 1) = b1 := ⟨_, rfl⟩
  have k1 : (bits .and .i64 (c : Int) 1 == 1) = b1 := by rw [← hb1]; rcases (show c = 8 ∨ c = 9 ∨ c = 10 ∨ c = 11 ∨ c = 12 ∨ c = 13 ∨ c = 14 ∨ c = 15 by omega) with rfl | rfl | rfl | rfl | rfl | rfl | rfl | rfl <;> decide
  have k4 : (bits .and .i64 (c : Int) 4 == 4) = false := by rcases (show c = 8 ∨ c = 9 ∨ c = 10 ∨ c = 11 ∨ c = 12 ∨ c = 13 ∨ c = 14 ∨ c = 15 by omega) with rfl | rfl | rfl | rfl | rfl | rfl | rfl | rfl <;> first | decide | omega
  have k2 : (bits .and .i64 (c : Int) 2 == 2) = true := by rcases (show c = 8 ∨ c = 9 ∨ c = 10 ∨ c = 11 ∨ c = 12 ∨ c = 13 ∨ c = 14 ∨ c = 15 by omega) with rfl | rfl | rfl | rfl | rfl | rfl | rfl | rfl <;> first | decide | omega
  have HC := Lib.hid (And.intro hb1 (And.intro h4 h2))
  have hrn : (if c / 4 % 2 = 1 then 2 else 1) = 1 := by rw [if_neg h4]
  have HN := Lib.hid hrn
  have H0 := Lib.hid (HeldS.start w ⟨8, 0, 0, ⟨#[]⟩, b1, 0, 0, 0, false⟩)
  have HRD : Hid (∀ W, Calls Tryd.prog 61 #[.string s, .int .i64 a, .int .i64 1] W (ReadP (s.data.toList.drop a) a 1 W)) := Lib.hid fun W => sread s a 1 W hs (by decide)
  clear hb1 h4 h2 hc hrn
  go_enter Tryd.func60, Tryd.ntmps60
  go_wp2_with fail
  refine (HRD.out _).mono ?_
  rintro e w1 ⟨hres, hb⟩
  have H1 := Lib.hid (H0.out.next hb)
  have hsz0 : w.heap.size + 1 + 1 ≤ ((w.alloc (.cells (frC fr0) 25)).alloc (.cells (frC ⟨8, 0, 0, ⟨#[]⟩, b1, 0, 0, 0, false⟩) 25)).heap.size := by simp
  clear hb HRD
  rcases hres with ⟨l, m, A, cap, hrd, hln, rfl, hcap, hia⟩ | ⟨hno, A, cap, rfl, hcap, hia⟩
  · obtain ⟨y0, rfl⟩ : ∃ y0, l = [y0] := by
      match l, hln with
      | [y0], _ => exact ⟨y0, rfl⟩
    obtain ⟨g, rfl, hlo, hgs, hcl⟩ : ∃ g, A = some ⟨g, 0, none⟩ ∧ _ ∧ g < w1.heap.size ∧ ∀ j (hj : j < [y0].length), w1.cell? ⟨g, j, none⟩ = some (.int .i64 ([y0][j]'hj)) := hia.resolve_left (by simp)
    have hgn : w.heap.size + 1 ≠ g := by
      have h := Nat.le_trans hsz0 hlo
      omega
    have c0 := hcl 0 (by simp)
    have hml : m ≤ (s.data.toList.drop a).length := (readN_len _ _ _ _ hrd).2.1
    rw [List.length_drop, h3] at hml
    have HRD := Lib.hid (show readN (if c / 4 % 2 = 1 then 2 else 1) (s.data.toList.drop a) = some ([y0], m) by rw [HN.out]; exact hrd)
    dsimp only [List.getElem_cons_zero, List.getElem_cons_succ] at c0
    clear hcl hia hrd hln hlo hsz0
    obtain ⟨p, hp⟩ : ∃ p, a + m = p := ⟨_, rfl⟩
    have HP := Lib.hid hp
    have hps : p ≤ s.size := by omega
    have wr1 : wrap64 ((s.size : Int) - (p : Int)) = (s.size : Int) - (p : Int) := by unfold wrap64; omega
    rw [hp]
    clear hp
    obtain ⟨x0, x1, x2, x3, x4, x5, x6, x7, x8⟩ := H1.out.2.1.cells
    have fz := H1.out.2.1.free
    dsimp only at x0 x1 x2 x3 x4 x5 x6 x7 x8
    have hone : ((1 : Int) < 1) = (False) := by simp
    clear hone
    go_upto_region 9 with fail
    have H2 := Lib.hid (H1.out.st1 y0)
    have c0' := H1.out.cell hgn 1 0 (.int .i64 y0) _ c0
    clear x0 x1 x2 x3 x4 x5 x6 x7 x8 fz H1 c0
    generalize w1.setCell ⟨w.heap.size + 1, 1, none⟩ (.int .i64 y0) = w2 at *
    obtain ⟨x0, x1, x2, x3, x4, x5, x6, x7, x8⟩ := H2.out.2.1.cells
    have fz := H2.out.2.1.free
    dsimp only at x0 x1 x2 x3 x4 x5 x6 x7 x8
    cases hd : decL (s.data.toList.drop p) with
    | none =>
      have HQ := Lib.hid (sdecq_no s (p : Int) w2 hmx (Or.inr (by rw [Int.toNat_natCast]; exact hd)))
      have HE := Lib.hid (decS_bad HRD.out HC.out.2.2 (by rw [List.drop_drop, HP.out]; exact hd))
      clear hd
      go_wp2_with fail
      refine HQ.out.mono ?_
      rintro e wq ⟨rfl, rfl⟩
      obtain ⟨r0, r1, r2, r3, r4, r5, r6, r7, r8⟩ := H2.out.1.cells
      have rz := H2.out.1.free
      go_wp2
      refine bodyPost_ret (results_frame rfl _ _ w.heap.size _ _ _ _ rfl (H2.out.1.all fr0) Tryd.underlying25 rfl (by kernel_rfl)) rfl ?_
      exact ⟨by rw [HE.out]; rfl, setAll_below H2.out.2.2.1 (Nat.le_refl _) fr0⟩
    | some nk =>
      obtain ⟨x, k⟩ := nk
      have HQ := Lib.hid (sdecq_yes s p x k w2 hmx hd)
      have hd1 : decL ((s.data.toList.drop a).drop m) = some (x, k) := by rw [List.drop_drop, HP.out]; exact hd
      have hdl := (decL_some hd).2.1
      rw [List.length_drop, h3] at hdl
      have hk8 := (decL_some hd).1
      obtain ⟨q, hq⟩ : ∃ q, p + k = q := ⟨_, rfl⟩
      rw [hq] at HQ
      have HQQ := Lib.hid hq
      have hqs : q ≤ s.size := by omega
      have WR2 := Lib.hid (show wrap64 ((s.size : Int) - (q : Int)) = (s.size : Int) - (q : Int) by unfold wrap64; omega)
      have hal : (s.data.toList.drop a).length - (m + k) = s.size - q := by rw [List.length_drop, h3]; have := HP.out; omega
      by_cases hx : x ≤ s.size - q
      · have HE := Lib.hid (decS_len HRD.out HC.out.2.2 hd1 (by rw [hal]; exact hx))
        have hxd : decide ((s.size : Int) - (q : Int) < (x : Int)) = false := decide_eq_false (by omega)
        have s0 : (0 : Int) ≤ (q : Int) := by omega
        obtain ⟨r, hr⟩ : ∃ r, q + x = r := ⟨_, rfl⟩
        have s1 : (q : Int) ≤ (r : Int) := by omega
        have s2 : (r : Int) ≤ (s.size : Int) := by omega
        have WR3 := Lib.hid (show wrap64 ((q : Int) + (x : Int)) = (r : Int) by clear wr1; unfold wrap64; omega)
        have HR := Lib.hid hr
        clear hr
        clear hd hd1 hdl hk8 hq hal hx
        go_wp2_with fail
        refine HQ.out.mono ?_
        rintro e wq ⟨rfl, rfl⟩
        clear wr1
        have wr2 := WR2.out
        go_upto_region 16 with fail
        clear wr2
        have wr3 := WR3.out
        go_upto_region 19 with fail
        have H4 := Lib.hid (H2.out.st3 (s.extract q r))
        clear x0 x1 x2 x3 x4 x5 x6 x7 x8 fz H2
        generalize w2.setCell ⟨w.heap.size + 1, 3, none⟩ (.string (s.extract q r)) = w4 at *
        obtain ⟨x0, x1, x2, x3, x4, x5, x6, x7, x8⟩ := H4.out.2.1.cells
        have fz := H4.out.2.1.free
        dsimp only at x0 x1 x2 x3 x4 x5 x6 x7 x8
        have HE := Lib.hid (HE.out.trans (by
            have e1 : (s.data.toList.drop a).drop (m + k) = s.data.toList.drop q := by rw [List.drop_drop]; congr 1; have h1 := HP.out; have h2 := HQQ.out; clear wr3; omega
            rw [e1, show sFr c [y0] ((s.data.toList.drop q).take x) = ⟨8, y0, 0, s.extract q r, b1, 0, 0, 0, false⟩ by unfold sFr; rw [← ext_take, HR.out, if_neg HC.out.2.1, HC.out.1]; rfl]))
        have HI := Lib.hid (sisf ⟨8, y0, 0, s.extract q r, b1, 0, 0, 0, false⟩)
        by_cases hok : okF ⟨8, y0, 0, s.extract q r, b1, 0, 0, 0, false⟩
        · rw [decide_eq_true hok] at HI
          have HK := Lib.hid (HE.out.trans (chkF_some _ hok))
          clear hok
          go_wp2_with fail
          refine (HI.out _).mono ?_
          rintro e wf ⟨rfl, hbf⟩
          have HF := Lib.hid (H4.out.next hbf)
          clear hbf x0 x1 x2 x3 x4 x5 x6 x7 x8 fz
          obtain ⟨r0, r1, r2, r3, r4, r5, r6, r7, r8⟩ := HF.out.1.cells
          have rz := HF.out.1.free
          obtain ⟨x0, x1, x2, x3, x4, x5, x6, x7, x8⟩ := HF.out.2.1.cells
          dsimp only at x0 x1 x2 x3 x4 x5 x6 x7 x8
          go_wp2
          refine bodyPost_ret (results_frame rfl _ _ w.heap.size _ _ _ _ rfl (HF.out.1.all ⟨8, y0, 0, s.extract q r, b1, 0, 0, 0, false⟩) Tryd.underlying25 rfl (by kernel_rfl)) rfl ?_
          refine ⟨?_, setAll_below HF.out.2.2.1 (Nat.le_refl _) ⟨8, y0, 0, s.extract q r, b1, 0, 0, 0, false⟩⟩
          rw [HK.out]
          show _ = Ending.returned (.tuple #[frV ⟨8, y0, 0, s.extract q r, b1, 0, 0, 0, false⟩, .int .i64 ((a + (m + k + x) : Nat) : Int), .bool true])
          have hq9 : ((a + (m + k + x) : Nat) : Int) = (r : Int) := by have h1 := HP.out; have h2 := HQQ.out; have h3 := HR.out; clear wr3; omega
          rw [hq9, ← WR3.out]
          rfl
        · rw [decide_eq_false hok] at HI
          have HK := Lib.hid (HE.out.trans (chkF_none _ hok))
          clear hok
          go_wp2_with fail
          refine (HI.out _).mono ?_
          rintro e wf ⟨rfl, hbf⟩
          have HF := Lib.hid (H4.out.next hbf)
          clear hbf x0 x1 x2 x3 x4 x5 x6 x7 x8 fz
          obtain ⟨r0, r1, r2, r3, r4, r5, r6, r7, r8⟩ := HF.out.1.cells
          have rz := HF.out.1.free
          go_wp2
          refine bodyPost_ret (results_frame rfl _ _ w.heap.size _ _ _ _ rfl (HF.out.1.all fr0) Tryd.underlying25 rfl (by kernel_rfl)) rfl ?_
          exact ⟨by rw [HK.out]; rfl, setAll_below HF.out.2.2.1 (Nat.le_refl _) fr0⟩
      · have HE := Lib.hid (decS_long HRD.out HC.out.2.2 hd1 (by rw [hal]; exact hx))
        have hxd : decide ((s.size : Int) - (q : Int) < (x : Int)) = true := decide_eq_true (by omega)
        clear hd hd1 hdl hk8 hq hal hx
        go_wp2_with fail
        refine HQ.out.mono ?_
        rintro e wq ⟨rfl, rfl⟩
        clear wr1
        have wr2 := WR2.out
        obtain ⟨r0, r1, r2, r3, r4, r5, r6, r7, r8⟩ := H2.out.1.cells
        have rz := H2.out.1.free
        go_wp2
        refine bodyPost_ret (results_frame rfl _ _ w.heap.size _ _ _ _ rfl (H2.out.1.all fr0) Tryd.underlying25 rfl (by kernel_rfl)) rfl ?_
        exact ⟨by rw [HE.out]; rfl, setAll_below H2.out.2.2.1 (Nat.le_refl _) fr0⟩
  · have HE := Lib.hid (decS_none (show readN (if c / 4 % 2 = 1 then 2 else 1) (s.data.toList.drop a) = none by rw [HN.out]; exact hno))
    clear hno hia hcap
    obtain ⟨r0, r1, r2, r3, r4, r5, r6, r7, r8⟩ := H1.out.1.cells
    have rz := H1.out.1.free
    go_wp2
    refine bodyPost_ret (results_frame rfl _ _ w.heap.size _ _ _ _ rfl (H1.out.1.all fr0) Tryd.underlying25 rfl (by kernel_rfl)) rfl ?_
    exact ⟨by rw [HE.out]; rfl, setAll_below H1.out.2.2.1 (Nat.le_refl _) fr0⟩

set_option maxRecDepth 100000 in
set_option maxHeartbeats 2000000 in
theorem sstream_00 (s : ByteArray) (a c : Nat) (w : World) (hs : s.size ≤ 1048576) (ha : a ≤ s.size) (hc : 8 ≤ c ∧ c < 16) (h4 : ¬ c / 4 % 2 = 1) (h2 : ¬ c / 2 % 2 = 1) :
    Calls Tryd.prog 60 #[.string s, .int .i64 a, .int .i64 c] w (FrP a (decS c (s.data.toList.drop a)) w) := by
  have h3 : s.data.toList.length = s.size := by simp
  have hmx : s.size ≤ maxLen := by unfold maxLen; omega
  obtain ⟨b1, hb1⟩ : ∃ b1 : Bool, decide (c % 2 = 1) = b1 := ⟨_, rfl⟩
  have k1 : (bits .and .i64 (c : Int) 1 == 1) = b1 := by rw [← hb1]; rcases (show c = 8 ∨ c = 9 ∨ c = 10 ∨ c = 11 ∨ c = 12 ∨ c = 13 ∨ c = 14 ∨ c = 15 by omega) with rfl | rfl | rfl | rfl | rfl | rfl | rfl | rfl <;> decide
  have k4 : (bits .and .i64 (c : Int) 4 == 4) = false := by rcases (show c = 8 ∨ c = 9 ∨ c = 10 ∨ c = 11 ∨ c = 12 ∨ c = 13 ∨ c = 14 ∨ c = 15 by omega) with rfl | rfl | rfl | rfl | rfl | rfl | rfl | rfl <;> first | decide | omega
  have k2 : (bits .and .i64 (c : Int) 2 == 2) = false := by rcases (show c = 8 ∨ c = 9 ∨ c = 10 ∨ c = 11 ∨ c = 12 ∨ c = 13 ∨ c = 14 ∨ c = 15 by omega) with rfl | rfl | rfl | rfl | rfl | rfl | rfl | rfl <;> first | decide | omega
  have HC := Lib.hid (And.intro hb1 (And.intro h4 h2))
  have hrn : (if c / 4 % 2 = 1 then 2 else 1) = 1 := by rw [if_neg h4]
  have HN := Lib.hid hrn
  have H0 := Lib.hid (HeldS.start w ⟨8, 0, 0, ⟨#[]⟩, b1, 0, 0, 0, false⟩)
  have HRD : Hid (∀ W, Calls Tryd.prog 61 #[.string s, .int .i64 a, .int .i64 1] W (ReadP (s.data.toList.drop a) a 1 W)) := Lib.hid fun W => sread s a 1 W hs (by decide)
  clear hb1 h4 h2 hc hrn
  go_enter Tryd.func60, Tryd.ntmps60
  go_wp2_with fail
  refine (HRD.out _).mono ?_
  rintro e w1 ⟨hres, hb⟩
  have H1 := Lib.hid (H0.out.next hb)
  have hsz0 : w.heap.size + 1 + 1 ≤ ((w.alloc (.cells (frC fr0) 25)).alloc (.cells (frC ⟨8, 0, 0, ⟨#[]⟩, b1, 0, 0, 0, false⟩) 25)).heap.size := by simp
  clear hb HRD
  rcases hres with ⟨l, m, A, cap, hrd, hln, rfl, hcap, hia⟩ | ⟨hno, A, cap, rfl, hcap, hia⟩
  · obtain ⟨y0, rfl⟩ : ∃ y0, l = [y0] := by
      match l, hln with
      | [y0], _ => exact ⟨y0, rfl⟩
    obtain ⟨g, rfl, hlo, hgs, hcl⟩ : ∃ g, A = some ⟨g, 0, none⟩ ∧ _ ∧ g < w1.heap.size ∧ ∀ j (hj : j < [y0].length), w1.cell? ⟨g, j, none⟩ = some (.int .i64 ([y0][j]'hj)) := hia.resolve_left (by simp)
    have hgn : w.heap.size + 1 ≠ g := by
      have h := Nat.le_trans hsz0 hlo
      omega
    have c0 := hcl 0 (by simp)
    have hml : m ≤ (s.data.toList.drop a).length := (readN_len _ _ _ _ hrd).2.1
    rw [List.length_drop, h3] at hml
    have HRD := Lib.hid (show readN (if c / 4 % 2 = 1 then 2 else 1) (s.data.toList.drop a) = some ([y0], m) by rw [HN.out]; exact hrd)
    dsimp only [List.getElem_cons_zero, List.getElem_cons_succ] at c0
    clear hcl hia hrd hln hlo hsz0
    obtain ⟨p, hp⟩ : ∃ p, a + m = p := ⟨_, rfl⟩
    have HP := Lib.hid hp
    have hps : p ≤ s.size := by omega
    have wr1 : wrap64 ((s.size : Int) - (p : Int)) = (s.size : Int) - (p : Int) := by unfold wrap64; omega
    rw [hp]
    clear hp
    obtain ⟨x0, x1, x2, x3, x4, x5, x6, x7, x8⟩ := H1.out.2.1.cells
    have fz := H1.out.2.1.free
    dsimp only at x0 x1 x2 x3 x4 x5 x6 x7 x8
    have hone : ((1 : Int) < 1) = (False) := by simp
    clear hone
    go_upto_region 9 with fail
    have H2 := Lib.hid (H1.out.st1 y0)
    have c0' := H1.out.cell hgn 1 0 (.int .i64 y0) _ c0
    clear x0 x1 x2 x3 x4 x5 x6 x7 x8 fz H1 c0
    generalize w1.setCell ⟨w.heap.size + 1, 1, none⟩ (.int .i64 y0) = w2 at *
    obtain ⟨x0, x1, x2, x3, x4, x5, x6, x7, x8⟩ := H2.out.2.1.cells
    have fz := H2.out.2.1.free
    dsimp only at x0 x1 x2 x3 x4 x5 x6 x7 x8
    obtain ⟨z, hz⟩ : ∃ z, s.size - p = z := ⟨_, rfl⟩
    have HZ := Lib.hid hz
    have hzi : (s.size : Int) - (p : Int) = (z : Int) := by omega
    rw [hzi] at wr1
    obtain ⟨r, hr⟩ : ∃ r, p + z = r := ⟨_, rfl⟩
    have s0 : (0 : Int) ≤ (p : Int) := by omega
    have s1 : (p : Int) ≤ (r : Int) := by omega
    have s2 : (r : Int) ≤ (s.size : Int) := by clear wr1; omega
    have WR3 := Lib.hid (show wrap64 ((p : Int) + (z : Int)) = (r : Int) by clear wr1; unfold wrap64; omega)
    have HR := Lib.hid hr
    clear hr
    have HE := Lib.hid (decS_open HRD.out HC.out.2.2)
    clear hz
    go_upto_region 18 with fail
    clear wr1 hzi
    have wr3 := WR3.out
    go_upto_region 19 with fail
    have H4 := Lib.hid (H2.out.st3 (s.extract p r))
    clear x0 x1 x2 x3 x4 x5 x6 x7 x8 fz H2
    generalize w2.setCell ⟨w.heap.size + 1, 3, none⟩ (.string (s.extract p r)) = w4 at *
    obtain ⟨x0, x1, x2, x3, x4, x5, x6, x7, x8⟩ := H4.out.2.1.cells
    have fz := H4.out.2.1.free
    dsimp only at x0 x1 x2 x3 x4 x5 x6 x7 x8
    have HE := Lib.hid (HE.out.trans (by
        have e1 : (s.data.toList.drop a).drop m = (s.data.toList.drop p).take z := by
          rw [List.drop_drop, HP.out, List.take_of_length_le]
          rw [List.length_drop, h3, HZ.out]
          exact Nat.le_refl _
        rw [e1, show sFr c [y0] ((s.data.toList.drop p).take z) = ⟨8, y0, 0, s.extract p r, b1, 0, 0, 0, false⟩ by unfold sFr; rw [← ext_take, HR.out, if_neg HC.out.2.1, HC.out.1]; rfl]))
    have HI := Lib.hid (sisf ⟨8, y0, 0, s.extract p r, b1, 0, 0, 0, false⟩)
    by_cases hok : okF ⟨8, y0, 0, s.extract p r, b1, 0, 0, 0, false⟩
    · rw [decide_eq_true hok] at HI
      have HK := Lib.hid (HE.out.trans (chkF_some _ hok))
      clear hok
      go_wp2_with fail
      refine (HI.out _).mono ?_
      rintro e wf ⟨rfl, hbf⟩
      have HF := Lib.hid (H4.out.next hbf)
      clear hbf x0 x1 x2 x3 x4 x5 x6 x7 x8 fz
      obtain ⟨r0, r1, r2, r3, r4, r5, r6, r7, r8⟩ := HF.out.1.cells
      have rz := HF.out.1.free
      obtain ⟨x0, x1, x2, x3, x4, x5, x6, x7, x8⟩ := HF.out.2.1.cells
      dsimp only at x0 x1 x2 x3 x4 x5 x6 x7 x8
      go_wp2
      refine bodyPost_ret (results_frame rfl _ _ w.heap.size _ _ _ _ rfl (HF.out.1.all ⟨8, y0, 0, s.extract p r, b1, 0, 0, 0, false⟩) Tryd.underlying25 rfl (by kernel_rfl)) rfl ?_
      refine ⟨?_, setAll_below HF.out.2.2.1 (Nat.le_refl _) ⟨8, y0, 0, s.extract p r, b1, 0, 0, 0, false⟩⟩
      rw [HK.out]
      show _ = Ending.returned (.tuple #[frV ⟨8, y0, 0, s.extract p r, b1, 0, 0, 0, false⟩, .int .i64 ((a + (s.data.toList.drop a).length : Nat) : Int), .bool true])
      have hq9 : ((a + (s.data.toList.drop a).length : Nat) : Int) = (r : Int) := by rw [List.length_drop, h3]; have h1 := HP.out; have h2 := HZ.out; have h4 := HR.out; clear wr3; omega
      rw [hq9, ← WR3.out]
      rfl
    · rw [decide_eq_false hok] at HI
      have HK := Lib.hid (HE.out.trans (chkF_none _ hok))
      clear hok
      go_wp2_with fail
      refine (HI.out _).mono ?_
      rintro e wf ⟨rfl, hbf⟩
      have HF := Lib.hid (H4.out.next hbf)
      clear hbf x0 x1 x2 x3 x4 x5 x6 x7 x8 fz
      obtain ⟨r0, r1, r2, r3, r4, r5, r6, r7, r8⟩ := HF.out.1.cells
      have rz := HF.out.1.free
      go_wp2
      refine bodyPost_ret (results_frame rfl _ _ w.heap.size _ _ _ _ rfl (HF.out.1.all fr0) Tryd.underlying25 rfl (by kernel_rfl)) rfl ?_
      exact ⟨by rw [HK.out]; rfl, setAll_below HF.out.2.2.1 (Nat.le_refl _) fr0⟩
  · have HE := Lib.hid (decS_none (show readN (if c / 4 % 2 = 1 then 2 else 1) (s.data.toList.drop a) = none by rw [HN.out]; exact hno))
    clear hno hia hcap
    obtain ⟨r0, r1, r2, r3, r4, r5, r6, r7, r8⟩ := H1.out.1.cells
    have rz := H1.out.1.free
    go_wp2
    refine bodyPost_ret (results_frame rfl _ _ w.heap.size _ _ _ _ rfl (H1.out.1.all fr0) Tryd.underlying25 rfl (by kernel_rfl)) rfl ?_
    exact ⟨by rw [HE.out]; rfl, setAll_below H1.out.2.2.1 (Nat.le_refl _) fr0⟩

end Go.Proofs.YtjbppociogoopaaDoor
