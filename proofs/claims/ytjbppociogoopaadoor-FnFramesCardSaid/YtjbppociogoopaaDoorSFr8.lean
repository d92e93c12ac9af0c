/-
  What spec.DecodeFrame returns.
-/
import Derived.Test.YtjbppociogoopaaDoorSFr7
namespace Go.Proofs.YtjbppociogoopaaDoor
open Go.RowKit Go.Deep Go.Proofs.YtjbppociogoopaaDoor.Num

/-- spec.l4Stream -/
theorem sstream (s : ByteArray) (a c : Nat) (w : World) (hs : s.size ≤ 1048576) (ha : a ≤ s.size) (hc : 8 ≤ c ∧ c < 16) :
    Calls Tryd.prog 60 #[.string s, .int .i64 a, .int .i64 c] w (FrP a (decS c (s.data.toList.drop a)) w) := by
  by_cases h4 : c / 4 % 2 = 1 <;> by_cases h2 : c / 2 % 2 = 1
  · exact sstream_11 s a c w hs ha hc h4 h2
  · exact sstream_10 s a c w hs ha hc h4 h2
  · exact sstream_01 s a c w hs ha hc h4 h2
  · exact sstream_00 s a c w hs ha hc h4 h2
/-- The result's block, and all that was there. -/
def HeldZ (w : World) (W : World) : Prop := BoxF W w.heap.size fr0 ∧ Below w.heap.size w W
theorem HeldZ.start (w : World) : HeldZ w (w.alloc (.cells (frC fr0) 25)) := ⟨BoxF.new w fr0, (Below.refl _ _).alloc (Nat.le_refl _) _⟩
theorem HeldZ.next {w W W1 : World} (h : HeldZ w W) (hb : Below W.heap.size W W1) : HeldZ w W1 := ⟨h.1.below hb h.1.lt, h.2.trans (hb.mono h.2.size)⟩
theorem HeldZ.alloc {w W : World} (h : HeldZ w W) (ob : Obj) : HeldZ w (W.alloc ob) := ⟨h.1.alloc _, h.2.alloc h.2.size _⟩

set_option maxRecDepth 100000 in
set_option maxHeartbeats 2000000 in
/-- spec.DecodeFrame, where there is no type of a frame. -/
theorem sdecf_no (s : ByteArray) (a : Int) (w : World) (hs : s.size ≤ 1048576) (h : a < 0 ∨ s.size ≤ a ∨ ∃ (m : Nat) (hm : m < s.size), a = m ∧ 23 < s[m].toNat) :
    Calls Tryd.prog 19 #[.string s, .int .i64 a] w fun e w' => e = .returned (.tuple #[frV fr0, .int .i64 0, .bool false]) ∧ Below w.heap.size w w' := by
  have H0 := Lib.hid (HeldZ.start w)
  rcases h with h | h | ⟨m, hm, rfl, h⟩
  · have hd : decide (a < 0) = true := decide_eq_true h
    clear h
    go_enter Tryd.func19, Tryd.ntmps19
    go_wp2
    refine bodyPost_ret (results_frame rfl _ _ w.heap.size _ _ _ _ rfl H0.out.1 Tryd.underlying25 rfl (by kernel_rfl)) rfl ?_
    exact ⟨rfl, H0.out.2⟩
  · have hd : decide (a < 0) = false := decide_eq_false (by omega)
    have hd2 : decide ((s.size : Int) ≤ a) = true := decide_eq_true h
    clear h
    go_enter Tryd.func19, Tryd.ntmps19
    go_wp2
    refine bodyPost_ret (results_frame rfl _ _ w.heap.size _ _ _ _ rfl H0.out.1 Tryd.underlying25 rfl (by kernel_rfl)) rfl ?_
    exact ⟨rfl, H0.out.2⟩
  · have hd : decide ((m : Int) < 0) = false := decide_eq_false (by omega)
    have hd2 : decide ((s.size : Int) ≤ (m : Int)) = false := decide_eq_false (by omega)
    have hd3 : decide (23 < (s[m].toNat : Int)) = true := decide_eq_true (by omega)
    clear h
    go_enter Tryd.func19, Tryd.ntmps19
    go_wp2
    refine bodyPost_ret (results_frame rfl _ _ w.heap.size _ _ _ _ rfl H0.out.1 Tryd.underlying25 rfl (by kernel_rfl)) rfl ?_
    exact ⟨rfl, H0.out.2⟩

set_option maxRecDepth 100000 in
set_option maxHeartbeats 2000000 in
/-- spec.DecodeFrame, where a stream frame's type is. -/
theorem sdecf_stream (s : ByteArray) (a : Nat) (w : World) (hs : s.size ≤ 1048576) (ha : a < s.size) (h0 : 8 ≤ s[a].toNat) (h1 : s[a].toNat < 16) :
    Calls Tryd.prog 19 #[.string s, .int .i64 a] w (FrP a (decF (s.data.toList.drop a)) w) := by
  have hd : decide ((a : Int) < 0) = false := decide_eq_false (by omega)
  have hd2 : decide ((s.size : Int) ≤ (a : Int)) = false := decide_eq_false (by omega)
  have hd3 : decide (23 < (s[a].toNat : Int)) = false := decide_eq_false (by omega)
  obtain ⟨a1, ha1⟩ : ∃ a1, a + 1 = a1 := ⟨_, rfl⟩
  have h1s : a1 ≤ s.size := by omega
  have wr1 : wrap64 ((a : Int) + 1) = (a : Int) + 1 := by unfold wrap64; omega
  have hbl := s[a].toNat_lt
  have wrb : wrap64 (s[a].toNat : Int) = (s[a].toNat : Int) := by clear wr1; unfold wrap64; omega
  clear hbl
  have hcast : (a1 : Int) = (a : Int) + 1 := by clear wr1 wrb; omega
  have HE := Lib.hid (show decF (s.data.toList.drop a) = (decS s[a].toNat (s.data.toList.drop a1)).map fun x => (x.1, x.2 + 1) by rw [drop_at s a ha, decF_stream h0 h1, ha1])
  have k1 : decide (8 ≤ (s[a].toNat : Int)) = true := decide_eq_true (by omega)
  have k2 : decide ((s[a].toNat : Int) < 16) = true := decide_eq_true (by omega)
  have HS := Lib.hid (fun W => sstream s a1 s[a].toNat W hs h1s ⟨h0, h1⟩)
  rw [hcast] at HS
  clear hcast
  have H0 := Lib.hid (HeldZ.start w)
  have HA := Lib.hid ha1
  clear h0 h1 ha1
  go_enter Tryd.func19, Tryd.ntmps19
  go_wp2_with fail
  refine (HS.out _).mono ?_
  rintro e w1 ⟨hres, hb⟩
  have H1 := Lib.hid (H0.out.next hb)
  clear hb
  cases hq : decS s[a].toNat (s.data.toList.drop a1) with
  | none =>
    have HK := Lib.hid (HE.out.trans (by rw [hq]; rfl : _ = none))
    rw [hq] at hres
    clear hq
    obtain rfl : e = .returned (.tuple #[frV fr0, .int .i64 0, .bool false]) := hres
    have H2 := Lib.hid (H1.out.alloc (.cells (frC fr0) 25))
    obtain ⟨r0, r1, r2, r3, r4, r5, r6, r7, r8⟩ := H2.out.1.cells
    have rz := H2.out.1.free
    go_wp2
    refine bodyPost_ret (results_frame rfl _ _ w.heap.size _ _ _ _ rfl (H2.out.1.all fr0) Tryd.underlying25 rfl (by kernel_rfl)) rfl ?_
    exact ⟨by rw [HK.out]; rfl, setAll_below H2.out.2 (Nat.le_refl _) fr0⟩
  | some fm =>
    obtain ⟨f, m⟩ := fm
    have HK := Lib.hid (HE.out.trans (by rw [hq]; rfl : _ = some (f, m + 1)))
    rw [hq] at hres
    clear hq
    obtain rfl : e = .returned (.tuple #[frV f, .int .i64 (a1 + m : Nat), .bool true]) := hres
    obtain ⟨p, hp⟩ : ∃ p, a1 + m = p := ⟨_, rfl⟩
    have HP := Lib.hid hp
    rw [hp]
    clear hp
    have H2 := Lib.hid (H1.out.alloc (.cells (frC f) 25))
    obtain ⟨r0, r1, r2, r3, r4, r5, r6, r7, r8⟩ := H2.out.1.cells
    have rz := H2.out.1.free
    go_wp2
    refine bodyPost_ret (results_frame rfl _ _ w.heap.size _ _ _ _ rfl (H2.out.1.all f) Tryd.underlying25 rfl (by kernel_rfl)) rfl ?_
    refine ⟨?_, setAll_below H2.out.2 (Nat.le_refl _) f⟩
    rw [HK.out]
    show _ = Ending.returned (.tuple #[frV f, .int .i64 ((a + (m + 1) : Nat) : Int), .bool true])
    rw [show a + (m + 1) = p by have h1 := HP.out; have h2 := HA.out; omega]
    rfl

set_option maxRecDepth 100000 in
set_option maxHeartbeats 2000000 in
theorem sdecf_4 (s : ByteArray) (a : Nat) (w : World) (hs : s.size ≤ 1048576) (ha : a < s.size) (hb : s[a].toNat = 4) :
    Calls Tryd.prog 19 #[.string s, .int .i64 a] w (FrP a (decF (s.data.toList.drop a)) w) := by
  have hd : decide ((a : Int) < 0) = false := decide_eq_false (by omega)
  have hd2 : decide ((s.size : Int) ≤ (a : Int)) = false := decide_eq_false (by omega)
  have hd3 : decide (23 < (s[a].toNat : Int)) = false := decide_eq_false (by omega)
  obtain ⟨a1, ha1⟩ : ∃ a1, a + 1 = a1 := ⟨_, rfl⟩
  have h1s : a1 ≤ s.size := by omega
  have wr1 : wrap64 ((a : Int) + 1) = (a : Int) + 1 := by unfold wrap64; omega
  have hbl := s[a].toNat_lt
  have wrb : wrap64 (s[a].toNat : Int) = (s[a].toNat : Int) := by clear wr1; unfold wrap64; omega
  clear hbl
  have hcast : (a1 : Int) = (a : Int) + 1 := by clear wr1 wrb; omega
  have hno : ¬ (8 ≤ s[a].toNat ∧ s[a].toNat < 16) := by omega
  have hcn : cntK s[a].toNat = 3 := by rw [hb]; rfl
  have HEN := Lib.hid (fun (h : readN 3 (s.data.toList.drop a1) = none) => show decF (s.data.toList.drop a) = none by rw [drop_at s a ha]; exact decF_bad (by omega) hno (by rw [hcn, ha1]; exact h))
  have HEY := Lib.hid (fun (l : List Int) (m : Nat) (h : readN 3 (s.data.toList.drop a1) = some (l, m)) => show decF (s.data.toList.drop a) = chkF (nFr 4 l) (m + 1) by rw [drop_at s a ha]; exact (decF_num (by omega) hno (by rw [hcn, ha1]; exact h)).trans (by rw [hb]))
  have HS : Hid (∀ W, Calls Tryd.prog 61 #[.string s, .int .i64 a1, .int .i64 3] W (ReadP (s.data.toList.drop a1) a1 3 W)) := Lib.hid fun W => sread s a1 3 W hs (by decide)
  rw [hcast] at HS
  clear hcast
  have HA := Lib.hid ha1
  have HBB := Lib.hid hb
  clear hb hno hcn ha1
  go_enter Tryd.func19, Tryd.ntmps19
  go_upto_region 4 with fail
  have hb : wrap64 (s[a].toNat : Int) = 4 := by rw [wrb]; have := HBB.out; clear wr1 wrb; omega
  rw [hb]
  clear hb hd hd2 hd3 HBB wrb
  have H0 := Lib.hid (HeldS.start w ⟨4, 0, 0, ⟨#[]⟩, false, 0, 0, 0, false⟩)
  go_wp2_with fail
  refine (HS.out _).mono ?_
  rintro e w1 ⟨hres, hb⟩
  have H1 := Lib.hid (H0.out.next hb)
  have hsz0 : w.heap.size + 1 + 1 ≤ ((w.alloc (.cells (frC fr0) 25)).alloc (.cells (frC ⟨4, 0, 0, ⟨#[]⟩, false, 0, 0, 0, false⟩) 25)).heap.size := by simp
  clear hb HS wr1
  rcases hres with ⟨l, m, A, cap, hrd, hln, rfl, hcap, hia⟩ | ⟨hno, A, cap, rfl, hcap, hia⟩
  ·
    obtain ⟨y0, y1, y2, rfl⟩ : ∃ y0 y1 y2, l = [y0, y1, y2] := by
      match l, hln with
      | [y0, y1, y2], _ => exact ⟨y0, y1, y2, rfl⟩
    obtain ⟨g, rfl, hlo, hgs, hcl⟩ : ∃ g, A = some ⟨g, 0, none⟩ ∧ _ ∧ g < w1.heap.size ∧ ∀ j (hj : j < ([y0, y1, y2] : List Int).length), w1.cell? ⟨g, j, none⟩ = some (.int .i64 (([y0, y1, y2] : List Int)[j]'hj)) := hia.resolve_left (by simp)
    have hgn : w.heap.size + 1 ≠ g := by
      have h := Nat.le_trans hsz0 hlo
      omega
    have c0 := hcl 0 (by simp)
    have c1 := hcl 1 (by simp)
    have c2 := hcl 2 (by simp)
    dsimp only [List.getElem_cons_zero, List.getElem_cons_succ] at c0 c1 c2
    have HK := Lib.hid (HEY.out _ _ hrd)
    obtain ⟨p, hp⟩ : ∃ p, a1 + m = p := ⟨_, rfl⟩
    have HP := Lib.hid hp
    rw [hp]
    clear hcl hia hrd hln hlo hsz0 hp
    obtain ⟨x0, x1, x2, x3, x4, x5, x6, x7, x8⟩ := H1.out.2.1.cells
    have fz := H1.out.2.1.free
    dsimp only at x0 x1 x2 x3 x4 x5 x6 x7 x8
    go_upto_region 25 with fail
    have H2 := Lib.hid (H1.out.st1 y0)
    have c0 := H1.out.cell hgn 1 0 (.int .i64 y0) _ c0
    have c1 := H1.out.cell hgn 1 1 (.int .i64 y0) _ c1
    have c2 := H1.out.cell hgn 1 2 (.int .i64 y0) _ c2
    clear x0 x1 x2 x3 x4 x5 x6 x7 x8 fz H1
    generalize w1.setCell ⟨w.heap.size + 1, 1, none⟩ (.int .i64 y0) = w2 at *
    obtain ⟨x0, x1, x2, x3, x4, x5, x6, x7, x8⟩ := H2.out.2.1.cells
    have fz := H2.out.2.1.free
    dsimp only at x0 x1 x2 x3 x4 x5 x6 x7 x8
    go_upto_region 26 with fail
    have H3 := Lib.hid (H2.out.st5 y1)
    have c0 := H2.out.cell hgn 5 0 (.int .i64 y1) _ c0
    have c1 := H2.out.cell hgn 5 1 (.int .i64 y1) _ c1
    have c2 := H2.out.cell hgn 5 2 (.int .i64 y1) _ c2
    clear x0 x1 x2 x3 x4 x5 x6 x7 x8 fz H2
    generalize w2.setCell ⟨w.heap.size + 1, 5, none⟩ (.int .i64 y1) = w3 at *
    obtain ⟨x0, x1, x2, x3, x4, x5, x6, x7, x8⟩ := H3.out.2.1.cells
    have fz := H3.out.2.1.free
    dsimp only at x0 x1 x2 x3 x4 x5 x6 x7 x8
    go_upto_region 34 with fail
    have H4 := Lib.hid (H3.out.st7 y2)
    have c0 := H3.out.cell hgn 7 0 (.int .i64 y2) _ c0
    have c1 := H3.out.cell hgn 7 1 (.int .i64 y2) _ c1
    have c2 := H3.out.cell hgn 7 2 (.int .i64 y2) _ c2
    clear x0 x1 x2 x3 x4 x5 x6 x7 x8 fz H3
    generalize w3.setCell ⟨w.heap.size + 1, 7, none⟩ (.int .i64 y2) = w4 at *
    obtain ⟨x0, x1, x2, x3, x4, x5, x6, x7, x8⟩ := H4.out.2.1.cells
    have fz := H4.out.2.1.free
    dsimp only at x0 x1 x2 x3 x4 x5 x6 x7 x8
    have HE := Lib.hid (HK.out.trans (by rw [show nFr 4 [y0, y1, y2] = ⟨4, y0, 0, ⟨#[]⟩, false, y1, 0, y2, false⟩ from rfl] : _ = chkF ⟨4, y0, 0, ⟨#[]⟩, false, y1, 0, y2, false⟩ (m + 1)))
    have HI := Lib.hid (sisf ⟨4, y0, 0, ⟨#[]⟩, false, y1, 0, y2, false⟩)
    by_cases hok : okF ⟨4, y0, 0, ⟨#[]⟩, false, y1, 0, y2, false⟩
    · rw [decide_eq_true hok] at HI
      have HK := Lib.hid (HE.out.trans (chkF_some _ hok))
      clear hok HE
      go_wp2_with fail
      refine (HI.out _).mono ?_
      rintro e wf ⟨rfl, hbf⟩
      have HF := Lib.hid (H4.out.next hbf)
      clear hbf x0 x1 x2 x3 x4 x5 x6 x7 x8 fz
      obtain ⟨r0, r1, r2, r3, r4, r5, r6, r7, r8⟩ := HF.out.1.cells
      have rz := HF.out.1.free
      obtain ⟨x0, x1, x2, x3, x4, x5, x6, x7, x8⟩ := HF.out.2.1.cells
      dsimp only at x0 x1 x2 x3 x4 x5 x6 x7 x8
      go_wp2
      refine bodyPost_ret (results_frame rfl _ _ w.heap.size _ _ _ _ rfl (HF.out.1.all ⟨4, y0, 0, ⟨#[]⟩, false, y1, 0, y2, false⟩) Tryd.underlying25 rfl (by kernel_rfl)) rfl ?_
      refine ⟨?_, setAll_below HF.out.2.2.1 (Nat.le_refl _) ⟨4, y0, 0, ⟨#[]⟩, false, y1, 0, y2, false⟩⟩
      rw [HK.out]
      show _ = Ending.returned (.tuple #[frV ⟨4, y0, 0, ⟨#[]⟩, false, y1, 0, y2, false⟩, .int .i64 ((a + (m + 1) : Nat) : Int), .bool true])
      rw [show a + (m + 1) = p by have h1 := HP.out; have h2 := HA.out; omega]
      rfl
    · rw [decide_eq_false hok] at HI
      have HK := Lib.hid (HE.out.trans (chkF_none _ hok))
      clear hok HE
      go_wp2_with fail
      refine (HI.out _).mono ?_
      rintro e wf ⟨rfl, hbf⟩
      have HF := Lib.hid (H4.out.next hbf)
      clear hbf x0 x1 x2 x3 x4 x5 x6 x7 x8 fz
      obtain ⟨r0, r1, r2, r3, r4, r5, r6, r7, r8⟩ := HF.out.1.cells
      have rz := HF.out.1.free
      go_wp2
      refine bodyPost_ret (results_frame rfl _ _ w.heap.size _ _ _ _ rfl (HF.out.1.all fr0) Tryd.underlying25 rfl (by kernel_rfl)) rfl ?_
      exact ⟨by rw [HK.out]; rfl, setAll_below HF.out.2.2.1 (Nat.le_refl _) fr0⟩
  ·
    obtain ⟨g, rfl, hlo, hgs, hcl⟩ : ∃ g, A = some ⟨g, 0, none⟩ ∧ _ ∧ g < w1.heap.size ∧ ∀ j (hj : j < ([0, 0, 0] : List Int).length), w1.cell? ⟨g, j, none⟩ = some (.int .i64 (([0, 0, 0] : List Int)[j]'hj)) := hia.resolve_left (by simp)
    have hgn : w.heap.size + 1 ≠ g := by
      have h := Nat.le_trans hsz0 hlo
      omega
    have c0 := hcl 0 (by simp)
    have c1 := hcl 1 (by simp)
    have c2 := hcl 2 (by simp)
    dsimp only [List.getElem_cons_zero, List.getElem_cons_succ] at c0 c1 c2
    have HK := Lib.hid (HEN.out hno)
    clear hcl hia hno hlo hsz0
    obtain ⟨x0, x1, x2, x3, x4, x5, x6, x7, x8⟩ := H1.out.2.1.cells
    have fz := H1.out.2.1.free
    dsimp only at x0 x1 x2 x3 x4 x5 x6 x7 x8
    go_upto_region 25 with fail
    have H2 := Lib.hid (H1.out.st1 0)
    have c0 := H1.out.cell hgn 1 0 (.int .i64 0) _ c0
    have c1 := H1.out.cell hgn 1 1 (.int .i64 0) _ c1
    have c2 := H1.out.cell hgn 1 2 (.int .i64 0) _ c2
    clear x0 x1 x2 x3 x4 x5 x6 x7 x8 fz H1
    generalize w1.setCell ⟨w.heap.size + 1, 1, none⟩ (.int .i64 0) = w2 at *
    obtain ⟨x0, x1, x2, x3, x4, x5, x6, x7, x8⟩ := H2.out.2.1.cells
    have fz := H2.out.2.1.free
    dsimp only at x0 x1 x2 x3 x4 x5 x6 x7 x8
    go_upto_region 26 with fail
    have H3 := Lib.hid (H2.out.st5 0)
    have c0 := H2.out.cell hgn 5 0 (.int .i64 0) _ c0
    have c1 := H2.out.cell hgn 5 1 (.int .i64 0) _ c1
    have c2 := H2.out.cell hgn 5 2 (.int .i64 0) _ c2
    clear x0 x1 x2 x3 x4 x5 x6 x7 x8 fz H2
    generalize w2.setCell ⟨w.heap.size + 1, 5, none⟩ (.int .i64 0) = w3 at *
    obtain ⟨x0, x1, x2, x3, x4, x5, x6, x7, x8⟩ := H3.out.2.1.cells
    have fz := H3.out.2.1.free
    dsimp only at x0 x1 x2 x3 x4 x5 x6 x7 x8
    go_upto_region 34 with fail
    have H4 := Lib.hid (H3.out.st7 0)
    have c0 := H3.out.cell hgn 7 0 (.int .i64 0) _ c0
    have c1 := H3.out.cell hgn 7 1 (.int .i64 0) _ c1
    have c2 := H3.out.cell hgn 7 2 (.int .i64 0) _ c2
    clear x0 x1 x2 x3 x4 x5 x6 x7 x8 fz H3
    generalize w3.setCell ⟨w.heap.size + 1, 7, none⟩ (.int .i64 0) = w4 at *
    obtain ⟨x0, x1, x2, x3, x4, x5, x6, x7, x8⟩ := H4.out.2.1.cells
    have fz := H4.out.2.1.free
    dsimp only at x0 x1 x2 x3 x4 x5 x6 x7 x8
    obtain ⟨r0, r1, r2, r3, r4, r5, r6, r7, r8⟩ := H4.out.1.cells
    have rz := H4.out.1.free
    go_wp2
    refine bodyPost_ret (results_frame rfl _ _ w.heap.size _ _ _ _ rfl (H4.out.1.all fr0) Tryd.underlying25 rfl (by kernel_rfl)) rfl ?_
    exact ⟨by rw [HK.out]; rfl, setAll_below H4.out.2.2.1 (Nat.le_refl _) fr0⟩

set_option maxRecDepth 100000 in
set_option maxHeartbeats 2000000 in
theorem sdecf_5 (s : ByteArray) (a : Nat) (w : World) (hs : s.size ≤ 1048576) (ha : a < s.size) (hb : s[a].toNat = 5) :
    Calls Tryd.prog 19 #[.string s, .int .i64 a] w (FrP a (decF (s.data.toList.drop a)) w) := by
  have hd : decide ((a : Int) < 0) = false := decide_eq_false (by omega)
  have hd2 : decide ((s.size : Int) ≤ (a : Int)) = false := decide_eq_false (by omega)
  have hd3 : decide (23 < (s[a].toNat : Int)) = false := decide_eq_false (by omega)
  obtain ⟨a1, ha1⟩ : ∃ a1, a + 1 = a1 := ⟨_, rfl⟩
  have h1s : a1 ≤ s.size := by omega
  have wr1 : wrap64 ((a : Int) + 1) = (a : Int) + 1 := by unfold wrap64; omega
  have hbl := s[a].toNat_lt
  have wrb : wrap64 (s[a].toNat : Int) = (s[a].toNat : Int) := by clear wr1; unfold wrap64; omega
  clear hbl
  have hcast : (a1 : Int) = (a : Int) + 1 := by clear wr1 wrb; omega
  have hno : ¬ (8 ≤ s[a].toNat ∧ s[a].toNat < 16) := by omega
  have hcn : cntK s[a].toNat = 2 := by rw [hb]; rfl
  have HEN := Lib.hid (fun (h : readN 2 (s.data.toList.drop a1) = none) => show decF (s.data.toList.drop a) = none by rw [drop_at s a ha]; exact decF_bad (by omega) hno (by rw [hcn, ha1]; exact h))
  have HEY := Lib.hid (fun (l : List Int) (m : Nat) (h : readN 2 (s.data.toList.drop a1) = some (l, m)) => show decF (s.data.toList.drop a) = chkF (nFr 5 l) (m + 1) by rw [drop_at s a ha]; exact (decF_num (by omega) hno (by rw [hcn, ha1]; exact h)).trans (by rw [hb]))
  have HS : Hid (∀ W, Calls Tryd.prog 61 #[.string s, .int .i64 a1, .int .i64 2] W (ReadP (s.data.toList.drop a1) a1 2 W)) := Lib.hid fun W => sread s a1 2 W hs (by decide)
  rw [hcast] at HS
  clear hcast
  have HA := Lib.hid ha1
  have HBB := Lib.hid hb
  clear hb hno hcn ha1
  go_enter Tryd.func19, Tryd.ntmps19
  go_upto_region 4 with fail
  have hb : wrap64 (s[a].toNat : Int) = 5 := by rw [wrb]; have := HBB.out; clear wr1 wrb; omega
  rw [hb]
  clear hb hd hd2 hd3 HBB wrb
  have H0 := Lib.hid (HeldS.start w ⟨5, 0, 0, ⟨#[]⟩, false, 0, 0, 0, false⟩)
  go_wp2_with fail
  refine (HS.out _).mono ?_
  rintro e w1 ⟨hres, hb⟩
  have H1 := Lib.hid (H0.out.next hb)
  have hsz0 : w.heap.size + 1 + 1 ≤ ((w.alloc (.cells (frC fr0) 25)).alloc (.cells (frC ⟨5, 0, 0, ⟨#[]⟩, false, 0, 0, 0, false⟩) 25)).heap.size := by simp
  clear hb HS wr1
  rcases hres with ⟨l, m, A, cap, hrd, hln, rfl, hcap, hia⟩ | ⟨hno, A, cap, rfl, hcap, hia⟩
  ·
    obtain ⟨y0, y1, rfl⟩ : ∃ y0 y1, l = [y0, y1] := by
      match l, hln with
      | [y0, y1], _ => exact ⟨y0, y1, rfl⟩
    obtain ⟨g, rfl, hlo, hgs, hcl⟩ : ∃ g, A = some ⟨g, 0, none⟩ ∧ _ ∧ g < w1.heap.size ∧ ∀ j (hj : j < ([y0, y1] : List Int).length), w1.cell? ⟨g, j, none⟩ = some (.int .i64 (([y0, y1] : List Int)[j]'hj)) := hia.resolve_left (by simp)
    have hgn : w.heap.size + 1 ≠ g := by
      have h := Nat.le_trans hsz0 hlo
      omega
    have c0 := hcl 0 (by simp)
    have c1 := hcl 1 (by simp)
    dsimp only [List.getElem_cons_zero, List.getElem_cons_succ] at c0 c1
    have HK := Lib.hid (HEY.out _ _ hrd)
    obtain ⟨p, hp⟩ : ∃ p, a1 + m = p := ⟨_, rfl⟩
    have HP := Lib.hid hp
    rw [hp]
    clear hcl hia hrd hln hlo hsz0 hp
    obtain ⟨x0, x1, x2, x3, x4, x5, x6, x7, x8⟩ := H1.out.2.1.cells
    have fz := H1.out.2.1.free
    dsimp only at x0 x1 x2 x3 x4 x5 x6 x7 x8
    go_upto_region 29 with fail
    have H2 := Lib.hid (H1.out.st1 y0)
    have c0 := H1.out.cell hgn 1 0 (.int .i64 y0) _ c0
    have c1 := H1.out.cell hgn 1 1 (.int .i64 y0) _ c1
    clear x0 x1 x2 x3 x4 x5 x6 x7 x8 fz H1
    generalize w1.setCell ⟨w.heap.size + 1, 1, none⟩ (.int .i64 y0) = w2 at *
    obtain ⟨x0, x1, x2, x3, x4, x5, x6, x7, x8⟩ := H2.out.2.1.cells
    have fz := H2.out.2.1.free
    dsimp only at x0 x1 x2 x3 x4 x5 x6 x7 x8
    go_upto_region 34 with fail
    have H3 := Lib.hid (H2.out.st5 y1)
    have c0 := H2.out.cell hgn 5 0 (.int .i64 y1) _ c0
    have c1 := H2.out.cell hgn 5 1 (.int .i64 y1) _ c1
    clear x0 x1 x2 x3 x4 x5 x6 x7 x8 fz H2
    generalize w2.setCell ⟨w.heap.size + 1, 5, none⟩ (.int .i64 y1) = w3 at *
    obtain ⟨x0, x1, x2, x3, x4, x5, x6, x7, x8⟩ := H3.out.2.1.cells
    have fz := H3.out.2.1.free
    dsimp only at x0 x1 x2 x3 x4 x5 x6 x7 x8
    have HE := Lib.hid (HK.out.trans (by rw [show nFr 5 [y0, y1] = ⟨5, y0, 0, ⟨#[]⟩, false, y1, 0, 0, false⟩ from rfl] : _ = chkF ⟨5, y0, 0, ⟨#[]⟩, false, y1, 0, 0, false⟩ (m + 1)))
    have HI := Lib.hid (sisf ⟨5, y0, 0, ⟨#[]⟩, false, y1, 0, 0, false⟩)
    by_cases hok : okF ⟨5, y0, 0, ⟨#[]⟩, false, y1, 0, 0, false⟩
    · rw [decide_eq_true hok] at HI
      have HK := Lib.hid (HE.out.trans (chkF_some _ hok))
      clear hok HE
      go_wp2_with fail
      refine (HI.out _).mono ?_
      rintro e wf ⟨rfl, hbf⟩
      have HF := Lib.hid (H3.out.next hbf)
      clear hbf x0 x1 x2 x3 x4 x5 x6 x7 x8 fz
      obtain ⟨r0, r1, r2, r3, r4, r5, r6, r7, r8⟩ := HF.out.1.cells
      have rz := HF.out.1.free
      obtain ⟨x0, x1, x2, x3, x4, x5, x6, x7, x8⟩ := HF.out.2.1.cells
      dsimp only at x0 x1 x2 x3 x4 x5 x6 x7 x8
      go_wp2
      refine bodyPost_ret (results_frame rfl _ _ w.heap.size _ _ _ _ rfl (HF.out.1.all ⟨5, y0, 0, ⟨#[]⟩, false, y1, 0, 0, false⟩) Tryd.underlying25 rfl (by kernel_rfl)) rfl ?_
      refine ⟨?_, setAll_below HF.out.2.2.1 (Nat.le_refl _) ⟨5, y0, 0, ⟨#[]⟩, false, y1, 0, 0, false⟩⟩
      rw [HK.out]
      show _ = Ending.returned (.tuple #[frV ⟨5, y0, 0, ⟨#[]⟩, false, y1, 0, 0, false⟩, .int .i64 ((a + (m + 1) : Nat) : Int), .bool true])
      rw [show a + (m + 1) = p by have h1 := HP.out; have h2 := HA.out; omega]
      rfl
    · rw [decide_eq_false hok] at HI
      have HK := Lib.hid (HE.out.trans (chkF_none _ hok))
      clear hok HE
      go_wp2_with fail
      refine (HI.out _).mono ?_
      rintro e wf ⟨rfl, hbf⟩
      have HF := Lib.hid (H3.out.next hbf)
      clear hbf x0 x1 x2 x3 x4 x5 x6 x7 x8 fz
      obtain ⟨r0, r1, r2, r3, r4, r5, r6, r7, r8⟩ := HF.out.1.cells
      have rz := HF.out.1.free
      go_wp2
      refine bodyPost_ret (results_frame rfl _ _ w.heap.size _ _ _ _ rfl (HF.out.1.all fr0) Tryd.underlying25 rfl (by kernel_rfl)) rfl ?_
      exact ⟨by rw [HK.out]; rfl, setAll_below HF.out.2.2.1 (Nat.le_refl _) fr0⟩
  ·
    obtain ⟨g, rfl, hlo, hgs, hcl⟩ : ∃ g, A = some ⟨g, 0, none⟩ ∧ _ ∧ g < w1.heap.size ∧ ∀ j (hj : j < ([0, 0, 0] : List Int).length), w1.cell? ⟨g, j, none⟩ = some (.int .i64 (([0, 0, 0] : List Int)[j]'hj)) := hia.resolve_left (by simp)
    have hgn : w.heap.size + 1 ≠ g := by
      have h := Nat.le_trans hsz0 hlo
      omega
    have c0 := hcl 0 (by simp)
    have c1 := hcl 1 (by simp)
    have c2 := hcl 2 (by simp)
    dsimp only [List.getElem_cons_zero, List.getElem_cons_succ] at c0 c1 c2
    have HK := Lib.hid (HEN.out hno)
    clear hcl hia hno hlo hsz0
    obtain ⟨x0, x1, x2, x3, x4, x5, x6, x7, x8⟩ := H1.out.2.1.cells
    have fz := H1.out.2.1.free
    dsimp only at x0 x1 x2 x3 x4 x5 x6 x7 x8
    go_upto_region 29 with fail
    have H2 := Lib.hid (H1.out.st1 0)
    have c0 := H1.out.cell hgn 1 0 (.int .i64 0) _ c0
    have c1 := H1.out.cell hgn 1 1 (.int .i64 0) _ c1
    have c2 := H1.out.cell hgn 1 2 (.int .i64 0) _ c2
    clear x0 x1 x2 x3 x4 x5 x6 x7 x8 fz H1
    generalize w1.setCell ⟨w.heap.size + 1, 1, none⟩ (.int .i64 0) = w2 at *
    obtain ⟨x0, x1, x2, x3, x4, x5, x6, x7, x8⟩ := H2.out.2.1.cells
    have fz := H2.out.2.1.free
    dsimp only at x0 x1 x2 x3 x4 x5 x6 x7 x8
    go_upto_region 34 with fail
    have H3 := Lib.hid (H2.out.st5 0)
    have c0 := H2.out.cell hgn 5 0 (.int .i64 0) _ c0
    have c1 := H2.out.cell hgn 5 1 (.int .i64 0) _ c1
    have c2 := H2.out.cell hgn 5 2 (.int .i64 0) _ c2
    clear x0 x1 x2 x3 x4 x5 x6 x7 x8 fz H2
    generalize w2.setCell ⟨w.heap.size + 1, 5, none⟩ (.int .i64 0) = w3 at *
    obtain ⟨x0, x1, x2, x3, x4, x5, x6, x7, x8⟩ := H3.out.2.1.cells
    have fz := H3.out.2.1.free
    dsimp only at x0 x1 x2 x3 x4 x5 x6 x7 x8
    obtain ⟨r0, r1, r2, r3, r4, r5, r6, r7, r8⟩ := H3.out.1.cells
    have rz := H3.out.1.free
    go_wp2
    refine bodyPost_ret (results_frame rfl _ _ w.heap.size _ _ _ _ rfl (H3.out.1.all fr0) Tryd.underlying25 rfl (by kernel_rfl)) rfl ?_
    exact ⟨by rw [HK.out]; rfl, setAll_below H3.out.2.2.1 (Nat.le_refl _) fr0⟩

set_option maxRecDepth 100000 in
set_option maxHeartbeats 2000000 in
theorem sdecf_17 (s : ByteArray) (a : Nat) (w : World) (hs : s.size ≤ 1048576) (ha : a < s.size) (hb : s[a].toNat = 17) :
    Calls Tryd.prog 19 #[.string s, .int .i64 a] w (FrP a (decF (s.data.toList.drop a)) w) := by
  have hd : decide ((a : Int) < 0) = false := decide_eq_false (by omega)
  have hd2 : decide ((s.size : Int) ≤ (a : Int)) = false := decide_eq_false (by omega)
  have hd3 : decide (23 < (s[a].toNat : Int)) = false := decide_eq_false (by omega)
  obtain ⟨a1, ha1⟩ : ∃ a1, a + 1 = a1 := ⟨_, rfl⟩
  have h1s : a1 ≤ s.size := by omega
  have wr1 : wrap64 ((a : Int) + 1) = (a : Int) + 1 := by unfold wrap64; omega
  have hbl := s[a].toNat_lt
  have wrb : wrap64 (s[a].toNat : Int) = (s[a].toNat : Int) := by clear wr1; unfold wrap64; omega
  clear hbl
  have hcast : (a1 : Int) = (a : Int) + 1 := by clear wr1 wrb; omega
  have hno : ¬ (8 ≤ s[a].toNat ∧ s[a].toNat < 16) := by omega
  have hcn : cntK s[a].toNat = 2 := by rw [hb]; rfl
  have HEN := Lib.hid (fun (h : readN 2 (s.data.toList.drop a1) = none) => show decF (s.data.toList.drop a) = none by rw [drop_at s a ha]; exact decF_bad (by omega) hno (by rw [hcn, ha1]; exact h))
  have HEY := Lib.hid (fun (l : List Int) (m : Nat) (h : readN 2 (s.data.toList.drop a1) = some (l, m)) => show decF (s.data.toList.drop a) = chkF (nFr 17 l) (m + 1) by rw [drop_at s a ha]; exact (decF_num (by omega) hno (by rw [hcn, ha1]; exact h)).trans (by rw [hb]))
  have HS : Hid (∀ W, Calls Tryd.prog 61 #[.string s, .int .i64 a1, .int .i64 2] W (ReadP (s.data.toList.drop a1) a1 2 W)) := Lib.hid fun W => sread s a1 2 W hs (by decide)
  rw [hcast] at HS
  clear hcast
  have HA := Lib.hid ha1
  have HBB := Lib.hid hb
  clear hb hno hcn ha1
  go_enter Tryd.func19, Tryd.ntmps19
  go_upto_region 4 with fail
  have hb : wrap64 (s[a].toNat : Int) = 17 := by rw [wrb]; have := HBB.out; clear wr1 wrb; omega
  rw [hb]
  clear hb hd hd2 hd3 HBB wrb
  have H0 := Lib.hid (HeldS.start w ⟨17, 0, 0, ⟨#[]⟩, false, 0, 0, 0, false⟩)
  go_wp2_with fail
  refine (HS.out _).mono ?_
  rintro e w1 ⟨hres, hb⟩
  have H1 := Lib.hid (H0.out.next hb)
  have hsz0 : w.heap.size + 1 + 1 ≤ ((w.alloc (.cells (frC fr0) 25)).alloc (.cells (frC ⟨17, 0, 0, ⟨#[]⟩, false, 0, 0, 0, false⟩) 25)).heap.size := by simp
  clear hb HS wr1
  rcases hres with ⟨l, m, A, cap, hrd, hln, rfl, hcap, hia⟩ | ⟨hno, A, cap, rfl, hcap, hia⟩
  ·
    obtain ⟨y0, y1, rfl⟩ : ∃ y0 y1, l = [y0, y1] := by
      match l, hln with
      | [y0, y1], _ => exact ⟨y0, y1, rfl⟩
    obtain ⟨g, rfl, hlo, hgs, hcl⟩ : ∃ g, A = some ⟨g, 0, none⟩ ∧ _ ∧ g < w1.heap.size ∧ ∀ j (hj : j < ([y0, y1] : List Int).length), w1.cell? ⟨g, j, none⟩ = some (.int .i64 (([y0, y1] : List Int)[j]'hj)) := hia.resolve_left (by simp)
    have hgn : w.heap.size + 1 ≠ g := by
      have h := Nat.le_trans hsz0 hlo
      omega
    have c0 := hcl 0 (by simp)
    have c1 := hcl 1 (by simp)
    dsimp only [List.getElem_cons_zero, List.getElem_cons_succ] at c0 c1
    have HK := Lib.hid (HEY.out _ _ hrd)
    obtain ⟨p, hp⟩ : ∃ p, a1 + m = p := ⟨_, rfl⟩
    have HP := Lib.hid hp
    rw [hp]
    clear hcl hia hrd hln hlo hsz0 hp
    obtain ⟨x0, x1, x2, x3, x4, x5, x6, x7, x8⟩ := H1.out.2.1.cells
    have fz := H1.out.2.1.free
    dsimp only at x0 x1 x2 x3 x4 x5 x6 x7 x8
    go_upto_region 33 with fail
    have H2 := Lib.hid (H1.out.st1 y0)
    have c0 := H1.out.cell hgn 1 0 (.int .i64 y0) _ c0
    have c1 := H1.out.cell hgn 1 1 (.int .i64 y0) _ c1
    clear x0 x1 x2 x3 x4 x5 x6 x7 x8 fz H1
    generalize w1.setCell ⟨w.heap.size + 1, 1, none⟩ (.int .i64 y0) = w2 at *
    obtain ⟨x0, x1, x2, x3, x4, x5, x6, x7, x8⟩ := H2.out.2.1.cells
    have fz := H2.out.2.1.free
    dsimp only at x0 x1 x2 x3 x4 x5 x6 x7 x8
    go_upto_region 34 with fail
    have H3 := Lib.hid (H2.out.st6 y1)
    have c0 := H2.out.cell hgn 6 0 (.int .i64 y1) _ c0
    have c1 := H2.out.cell hgn 6 1 (.int .i64 y1) _ c1
    clear x0 x1 x2 x3 x4 x5 x6 x7 x8 fz H2
    generalize w2.setCell ⟨w.heap.size + 1, 6, none⟩ (.int .i64 y1) = w3 at *
    obtain ⟨x0, x1, x2, x3, x4, x5, x6, x7, x8⟩ := H3.out.2.1.cells
    have fz := H3.out.2.1.free
    dsimp only at x0 x1 x2 x3 x4 x5 x6 x7 x8
    have HE := Lib.hid (HK.out.trans (by rw [show nFr 17 [y0, y1] = ⟨17, y0, 0, ⟨#[]⟩, false, 0, y1, 0, false⟩ from rfl] : _ = chkF ⟨17, y0, 0, ⟨#[]⟩, false, 0, y1, 0, false⟩ (m + 1)))
    have HI := Lib.hid (sisf ⟨17, y0, 0, ⟨#[]⟩, false, 0, y1, 0, false⟩)
    by_cases hok : okF ⟨17, y0, 0, ⟨#[]⟩, false, 0, y1, 0, false⟩
    · rw [decide_eq_true hok] at HI
      have HK := Lib.hid (HE.out.trans (chkF_some _ hok))
      clear hok HE
      go_wp2_with fail
      refine (HI.out _).mono ?_
      rintro e wf ⟨rfl, hbf⟩
      have HF := Lib.hid (H3.out.next hbf)
      clear hbf x0 x1 x2 x3 x4 x5 x6 x7 x8 fz
      obtain ⟨r0, r1, r2, r3, r4, r5, r6, r7, r8⟩ := HF.out.1.cells
      have rz := HF.out.1.free
      obtain ⟨x0, x1, x2, x3, x4, x5, x6, x7, x8⟩ := HF.out.2.1.cells
      dsimp only at x0 x1 x2 x3 x4 x5 x6 x7 x8
      go_wp2
      refine bodyPost_ret (results_frame rfl _ _ w.heap.size _ _ _ _ rfl (HF.out.1.all ⟨17, y0, 0, ⟨#[]⟩, false, 0, y1, 0, false⟩) Tryd.underlying25 rfl (by kernel_rfl)) rfl ?_
      refine ⟨?_, setAll_below HF.out.2.2.1 (Nat.le_refl _) ⟨17, y0, 0, ⟨#[]⟩, false, 0, y1, 0, false⟩⟩
      rw [HK.out]
      show _ = Ending.returned (.tuple #[frV ⟨17, y0, 0, ⟨#[]⟩, false, 0, y1, 0, false⟩, .int .i64 ((a + (m + 1) : Nat) : Int), .bool true])
      rw [show a + (m + 1) = p by have h1 := HP.out; have h2 := HA.out; omega]
      rfl
    · rw [decide_eq_false hok] at HI
      have HK := Lib.hid (HE.out.trans (chkF_none _ hok))
      clear hok HE
      go_wp2_with fail
      refine (HI.out _).mono ?_
      rintro e wf ⟨rfl, hbf⟩
      have HF := Lib.hid (H3.out.next hbf)
      clear hbf x0 x1 x2 x3 x4 x5 x6 x7 x8 fz
      obtain ⟨r0, r1, r2, r3, r4, r5, r6, r7, r8⟩ := HF.out.1.cells
      have rz := HF.out.1.free
      go_wp2
      refine bodyPost_ret (results_frame rfl _ _ w.heap.size _ _ _ _ rfl (HF.out.1.all fr0) Tryd.underlying25 rfl (by kernel_rfl)) rfl ?_
      exact ⟨by rw [HK.out]; rfl, setAll_below HF.out.2.2.1 (Nat.le_refl _) fr0⟩
  ·
    obtain ⟨g, rfl, hlo, hgs, hcl⟩ : ∃ g, A = some ⟨g, 0, none⟩ ∧ _ ∧ g < w1.heap.size ∧ ∀ j (hj : j < ([0, 0, 0] : List Int).length), w1.cell? ⟨g, j, none⟩ = some (.int .i64 (([0, 0, 0] : List Int)[j]'hj)) := hia.resolve_left (by simp)
    have hgn : w.heap.size + 1 ≠ g := by
      have h := Nat.le_trans hsz0 hlo
      omega
    have c0 := hcl 0 (by simp)
    have c1 := hcl 1 (by simp)
    have c2 := hcl 2 (by simp)
    dsimp only [List.getElem_cons_zero, List.getElem_cons_succ] at c0 c1 c2
    have HK := Lib.hid (HEN.out hno)
    clear hcl hia hno hlo hsz0
    obtain ⟨x0, x1, x2, x3, x4, x5, x6, x7, x8⟩ := H1.out.2.1.cells
    have fz := H1.out.2.1.free
    dsimp only at x0 x1 x2 x3 x4 x5 x6 x7 x8
    go_upto_region 33 with fail
    have H2 := Lib.hid (H1.out.st1 0)
    have c0 := H1.out.cell hgn 1 0 (.int .i64 0) _ c0
    have c1 := H1.out.cell hgn 1 1 (.int .i64 0) _ c1
    have c2 := H1.out.cell hgn 1 2 (.int .i64 0) _ c2
    clear x0 x1 x2 x3 x4 x5 x6 x7 x8 fz H1
    generalize w1.setCell ⟨w.heap.size + 1, 1, none⟩ (.int .i64 0) = w2 at *
    obtain ⟨x0, x1, x2, x3, x4, x5, x6, x7, x8⟩ := H2.out.2.1.cells
    have fz := H2.out.2.1.free
    dsimp only at x0 x1 x2 x3 x4 x5 x6 x7 x8
    go_upto_region 34 with fail
    have H3 := Lib.hid (H2.out.st6 0)
    have c0 := H2.out.cell hgn 6 0 (.int .i64 0) _ c0
    have c1 := H2.out.cell hgn 6 1 (.int .i64 0) _ c1
    have c2 := H2.out.cell hgn 6 2 (.int .i64 0) _ c2
    clear x0 x1 x2 x3 x4 x5 x6 x7 x8 fz H2
    generalize w2.setCell ⟨w.heap.size + 1, 6, none⟩ (.int .i64 0) = w3 at *
    obtain ⟨x0, x1, x2, x3, x4, x5, x6, x7, x8⟩ := H3.out.2.1.cells
    have fz := H3.out.2.1.free
    dsimp only at x0 x1 x2 x3 x4 x5 x6 x7 x8
    obtain ⟨r0, r1, r2, r3, r4, r5, r6, r7, r8⟩ := H3.out.1.cells
    have rz := H3.out.1.free
    go_wp2
    refine bodyPost_ret (results_frame rfl _ _ w.heap.size _ _ _ _ rfl (H3.out.1.all fr0) Tryd.underlying25 rfl (by kernel_rfl)) rfl ?_
    exact ⟨by rw [HK.out]; rfl, setAll_below H3.out.2.2.1 (Nat.le_refl _) fr0⟩

set_option maxRecDepth 100000 in
set_option maxHeartbeats 2000000 in
theorem sdecf_21 (s : ByteArray) (a : Nat) (w : World) (hs : s.size ≤ 1048576) (ha : a < s.size) (hb : s[a].toNat = 21) :
    Calls Tryd.prog 19 #[.string s, .int .i64 a] w (FrP a (decF (s.data.toList.drop a)) w) := by
  have hd : decide ((a : Int) < 0) = false := decide_eq_false (by omega)
  have hd2 : decide ((s.size : Int) ≤ (a : Int)) = false := decide_eq_false (by omega)
  have hd3 : decide (23 < (s[a].toNat : Int)) = false := decide_eq_false (by omega)
  obtain ⟨a1, ha1⟩ : ∃ a1, a + 1 = a1 := ⟨_, rfl⟩
  have h1s : a1 ≤ s.size := by omega
  have wr1 : wrap64 ((a : Int) + 1) = (a : Int) + 1 := by unfold wrap64; omega
  have hbl := s[a].toNat_lt
  have wrb : wrap64 (s[a].toNat : Int) = (s[a].toNat : Int) := by clear wr1; unfold wrap64; omega
  clear hbl
  have hcast : (a1 : Int) = (a : Int) + 1 := by clear wr1 wrb; omega
  have hno : ¬ (8 ≤ s[a].toNat ∧ s[a].toNat < 16) := by omega
  have hcn : cntK s[a].toNat = 2 := by rw [hb]; rfl
  have HEN := Lib.hid (fun (h : readN 2 (s.data.toList.drop a1) = none) => show decF (s.data.toList.drop a) = none by rw [drop_at s a ha]; exact decF_bad (by omega) hno (by rw [hcn, ha1]; exact h))
  have HEY := Lib.hid (fun (l : List Int) (m : Nat) (h : readN 2 (s.data.toList.drop a1) = some (l, m)) => show decF (s.data.toList.drop a) = chkF (nFr 21 l) (m + 1) by rw [drop_at s a ha]; exact (decF_num (by omega) hno (by rw [hcn, ha1]; exact h)).trans (by rw [hb]))
  have HS : Hid (∀ W, Calls Tryd.prog 61 #[.string s, .int .i64 a1, .int .i64 2] W (ReadP (s.data.toList.drop a1) a1 2 W)) := Lib.hid fun W => sread s a1 2 W hs (by decide)
  rw [hcast] at HS
  clear hcast
  have HA := Lib.hid ha1
  have HBB := Lib.hid hb
  clear hb hno hcn ha1
  go_enter Tryd.func19, Tryd.ntmps19
  go_upto_region 4 with fail
  have hb : wrap64 (s[a].toNat : Int) = 21 := by rw [wrb]; have := HBB.out; clear wr1 wrb; omega
  rw [hb]
  clear hb hd hd2 hd3 HBB wrb
  have H0 := Lib.hid (HeldS.start w ⟨21, 0, 0, ⟨#[]⟩, false, 0, 0, 0, false⟩)
  go_wp2_with fail
  refine (HS.out _).mono ?_
  rintro e w1 ⟨hres, hb⟩
  have H1 := Lib.hid (H0.out.next hb)
  have hsz0 : w.heap.size + 1 + 1 ≤ ((w.alloc (.cells (frC fr0) 25)).alloc (.cells (frC ⟨21, 0, 0, ⟨#[]⟩, false, 0, 0, 0, false⟩) 25)).heap.size := by simp
  clear hb HS wr1
  rcases hres with ⟨l, m, A, cap, hrd, hln, rfl, hcap, hia⟩ | ⟨hno, A, cap, rfl, hcap, hia⟩
  ·
    obtain ⟨y0, y1, rfl⟩ : ∃ y0 y1, l = [y0, y1] := by
      match l, hln with
      | [y0, y1], _ => exact ⟨y0, y1, rfl⟩
    obtain ⟨g, rfl, hlo, hgs, hcl⟩ : ∃ g, A = some ⟨g, 0, none⟩ ∧ _ ∧ g < w1.heap.size ∧ ∀ j (hj : j < ([y0, y1] : List Int).length), w1.cell? ⟨g, j, none⟩ = some (.int .i64 (([y0, y1] : List Int)[j]'hj)) := hia.resolve_left (by simp)
    have hgn : w.heap.size + 1 ≠ g := by
      have h := Nat.le_trans hsz0 hlo
      omega
    have c0 := hcl 0 (by simp)
    have c1 := hcl 1 (by simp)
    dsimp only [List.getElem_cons_zero, List.getElem_cons_succ] at c0 c1
    have HK := Lib.hid (HEY.out _ _ hrd)
    obtain ⟨p, hp⟩ : ∃ p, a1 + m = p := ⟨_, rfl⟩
    have HP := Lib.hid hp
    rw [hp]
    clear hcl hia hrd hln hlo hsz0 hp
    obtain ⟨x0, x1, x2, x3, x4, x5, x6, x7, x8⟩ := H1.out.2.1.cells
    have fz := H1.out.2.1.free
    dsimp only at x0 x1 x2 x3 x4 x5 x6 x7 x8
    go_upto_region 33 with fail
    have H2 := Lib.hid (H1.out.st1 y0)
    have c0 := H1.out.cell hgn 1 0 (.int .i64 y0) _ c0
    have c1 := H1.out.cell hgn 1 1 (.int .i64 y0) _ c1
    clear x0 x1 x2 x3 x4 x5 x6 x7 x8 fz H1
    generalize w1.setCell ⟨w.heap.size + 1, 1, none⟩ (.int .i64 y0) = w2 at *
    obtain ⟨x0, x1, x2, x3, x4, x5, x6, x7, x8⟩ := H2.out.2.1.cells
    have fz := H2.out.2.1.free
    dsimp only at x0 x1 x2 x3 x4 x5 x6 x7 x8
    go_upto_region 34 with fail
    have H3 := Lib.hid (H2.out.st6 y1)
    have c0 := H2.out.cell hgn 6 0 (.int .i64 y1) _ c0
    have c1 := H2.out.cell hgn 6 1 (.int .i64 y1) _ c1
    clear x0 x1 x2 x3 x4 x5 x6 x7 x8 fz H2
    generalize w2.setCell ⟨w.heap.size + 1, 6, none⟩ (.int .i64 y1) = w3 at *
    obtain ⟨x0, x1, x2, x3, x4, x5, x6, x7, x8⟩ := H3.out.2.1.cells
    have fz := H3.out.2.1.free
    dsimp only at x0 x1 x2 x3 x4 x5 x6 x7 x8
    have HE := Lib.hid (HK.out.trans (by rw [show nFr 21 [y0, y1] = ⟨21, y0, 0, ⟨#[]⟩, false, 0, y1, 0, false⟩ from rfl] : _ = chkF ⟨21, y0, 0, ⟨#[]⟩, false, 0, y1, 0, false⟩ (m + 1)))
    have HI := Lib.hid (sisf ⟨21, y0, 0, ⟨#[]⟩, false, 0, y1, 0, false⟩)
    by_cases hok : okF ⟨21, y0, 0, ⟨#[]⟩, false, 0, y1, 0, false⟩
    · rw [decide_eq_true hok] at HI
      have HK := Lib.hid (HE.out.trans (chkF_some _ hok))
      clear hok HE
      go_wp2_with fail
      refine (HI.out _).mono ?_
      rintro e wf ⟨rfl, hbf⟩
      have HF := Lib.hid (H3.out.next hbf)
      clear hbf x0 x1 x2 x3 x4 x5 x6 x7 x8 fz
      obtain ⟨r0, r1, r2, r3, r4, r5, r6, r7, r8⟩ := HF.out.1.cells
      have rz := HF.out.1.free
      obtain ⟨x0, x1, x2, x3, x4, x5, x6, x7, x8⟩ := HF.out.2.1.cells
      dsimp only at x0 x1 x2 x3 x4 x5 x6 x7 x8
      go_wp2
      refine bodyPost_ret (results_frame rfl _ _ w.heap.size _ _ _ _ rfl (HF.out.1.all ⟨21, y0, 0, ⟨#[]⟩, false, 0, y1, 0, false⟩) Tryd.underlying25 rfl (by kernel_rfl)) rfl ?_
      refine ⟨?_, setAll_below HF.out.2.2.1 (Nat.le_refl _) ⟨21, y0, 0, ⟨#[]⟩, false, 0, y1, 0, false⟩⟩
      rw [HK.out]
      show _ = Ending.returned (.tuple #[frV ⟨21, y0, 0, ⟨#[]⟩, false, 0, y1, 0, false⟩, .int .i64 ((a + (m + 1) : Nat) : Int), .bool true])
      rw [show a + (m + 1) = p by have h1 := HP.out; have h2 := HA.out; omega]
      rfl
    · rw [decide_eq_false hok] at HI
      have HK := Lib.hid (HE.out.trans (chkF_none _ hok))
      clear hok HE
      go_wp2_with fail
      refine (HI.out _).mono ?_
      rintro e wf ⟨rfl, hbf⟩
      have HF := Lib.hid (H3.out.next hbf)
      clear hbf x0 x1 x2 x3 x4 x5 x6 x7 x8 fz
      obtain ⟨r0, r1, r2, r3, r4, r5, r6, r7, r8⟩ := HF.out.1.cells
      have rz := HF.out.1.free
      go_wp2
      refine bodyPost_ret (results_frame rfl _ _ w.heap.size _ _ _ _ rfl (HF.out.1.all fr0) Tryd.underlying25 rfl (by kernel_rfl)) rfl ?_
      exact ⟨by rw [HK.out]; rfl, setAll_below HF.out.2.2.1 (Nat.le_refl _) fr0⟩
  ·
    obtain ⟨g, rfl, hlo, hgs, hcl⟩ : ∃ g, A = some ⟨g, 0, none⟩ ∧ _ ∧ g < w1.heap.size ∧ ∀ j (hj : j < ([0, 0, 0] : List Int).length), w1.cell? ⟨g, j, none⟩ = some (.int .i64 (([0, 0, 0] : List Int)[j]'hj)) := hia.resolve_left (by simp)
    have hgn : w.heap.size + 1 ≠ g := by
      have h := Nat.le_trans hsz0 hlo
      omega
    have c0 := hcl 0 (by simp)
    have c1 := hcl 1 (by simp)
    have c2 := hcl 2 (by simp)
    dsimp only [List.getElem_cons_zero, List.getElem_cons_succ] at c0 c1 c2
    have HK := Lib.hid (HEN.out hno)
    clear hcl hia hno hlo hsz0
    obtain ⟨x0, x1, x2, x3, x4, x5, x6, x7, x8⟩ := H1.out.2.1.cells
    have fz := H1.out.2.1.free
    dsimp only at x0 x1 x2 x3 x4 x5 x6 x7 x8
    go_upto_region 33 with fail
    have H2 := Lib.hid (H1.out.st1 0)
    have c0 := H1.out.cell hgn 1 0 (.int .i64 0) _ c0
    have c1 := H1.out.cell hgn 1 1 (.int .i64 0) _ c1
    have c2 := H1.out.cell hgn 1 2 (.int .i64 0) _ c2
    clear x0 x1 x2 x3 x4 x5 x6 x7 x8 fz H1
    generalize w1.setCell ⟨w.heap.size + 1, 1, none⟩ (.int .i64 0) = w2 at *
    obtain ⟨x0, x1, x2, x3, x4, x5, x6, x7, x8⟩ := H2.out.2.1.cells
    have fz := H2.out.2.1.free
    dsimp only at x0 x1 x2 x3 x4 x5 x6 x7 x8
    go_upto_region 34 with fail
    have H3 := Lib.hid (H2.out.st6 0)
    have c0 := H2.out.cell hgn 6 0 (.int .i64 0) _ c0
    have c1 := H2.out.cell hgn 6 1 (.int .i64 0) _ c1
    have c2 := H2.out.cell hgn 6 2 (.int .i64 0) _ c2
    clear x0 x1 x2 x3 x4 x5 x6 x7 x8 fz H2
    generalize w2.setCell ⟨w.heap.size + 1, 6, none⟩ (.int .i64 0) = w3 at *
    obtain ⟨x0, x1, x2, x3, x4, x5, x6, x7, x8⟩ := H3.out.2.1.cells
    have fz := H3.out.2.1.free
    dsimp only at x0 x1 x2 x3 x4 x5 x6 x7 x8
    obtain ⟨r0, r1, r2, r3, r4, r5, r6, r7, r8⟩ := H3.out.1.cells
    have rz := H3.out.1.free
    go_wp2
    refine bodyPost_ret (results_frame rfl _ _ w.heap.size _ _ _ _ rfl (H3.out.1.all fr0) Tryd.underlying25 rfl (by kernel_rfl)) rfl ?_
    exact ⟨by rw [HK.out]; rfl, setAll_below H3.out.2.2.1 (Nat.le_refl _) fr0⟩

set_option maxRecDepth 100000 in
set_option maxHeartbeats 2000000 in
theorem sdecf_19 (s : ByteArray) (a : Nat) (w : World) (hs : s.size ≤ 1048576) (ha : a < s.size) (hb : s[a].toNat = 19) :
    Calls Tryd.prog 19 #[.string s, .int .i64 a] w (FrP a (decF (s.data.toList.drop a)) w) := by
  have hd : decide ((a : Int) < 0) = false := decide_eq_false (by omega)
  have hd2 : decide ((s.size : Int) ≤ (a : Int)) = false := decide_eq_false (by omega)
  have hd3 : decide (23 < (s[a].toNat : Int)) = false := decide_eq_false (by omega)
  obtain ⟨a1, ha1⟩ : ∃ a1, a + 1 = a1 := ⟨_, rfl⟩
  have h1s : a1 ≤ s.size := by omega
  have wr1 : wrap64 ((a : Int) + 1) = (a : Int) + 1 := by unfold wrap64; omega
  have hbl := s[a].toNat_lt
  have wrb : wrap64 (s[a].toNat : Int) = (s[a].toNat : Int) := by clear wr1; unfold wrap64; omega
  clear hbl
  have hcast : (a1 : Int) = (a : Int) + 1 := by clear wr1 wrb; omega
  have hno : ¬ (8 ≤ s[a].toNat ∧ s[a].toNat < 16) := by omega
  have hcn : cntK s[a].toNat = 1 := by rw [hb]; rfl
  have HEN := Lib.hid (fun (h : readN 1 (s.data.toList.drop a1) = none) => show decF (s.data.toList.drop a) = none by rw [drop_at s a ha]; exact decF_bad (by omega) hno (by rw [hcn, ha1]; exact h))
  have HEY := Lib.hid (fun (l : List Int) (m : Nat) (h : readN 1 (s.data.toList.drop a1) = some (l, m)) => show decF (s.data.toList.drop a) = chkF (nFr 19 l) (m + 1) by rw [drop_at s a ha]; exact (decF_num (by omega) hno (by rw [hcn, ha1]; exact h)).trans (by rw [hb]))
  have HS : Hid (∀ W, Calls Tryd.prog 61 #[.string s, .int .i64 a1, .int .i64 1] W (ReadP (s.data.toList.drop a1) a1 1 W)) := Lib.hid fun W => sread s a1 1 W hs (by decide)
  rw [hcast] at HS
  clear hcast
  have HA := Lib.hid ha1
  have HBB := Lib.hid hb
  clear hb hno hcn ha1
  go_enter Tryd.func19, Tryd.ntmps19
  go_upto_region 4 with fail
  have hb : wrap64 (s[a].toNat : Int) = 19 := by rw [wrb]; have := HBB.out; clear wr1 wrb; omega
  rw [hb]
  clear hb hd hd2 hd3 HBB wrb
  have H0 := Lib.hid (HeldS.start w ⟨18, 0, 0, ⟨#[]⟩, false, 0, 0, 0, true⟩)
  go_wp2_with fail
  refine (HS.out _).mono ?_
  rintro e w1 ⟨hres, hb⟩
  have H1 := Lib.hid (H0.out.next hb)
  have hsz0 : w.heap.size + 1 + 1 ≤ ((w.alloc (.cells (frC fr0) 25)).alloc (.cells (frC ⟨18, 0, 0, ⟨#[]⟩, false, 0, 0, 0, true⟩) 25)).heap.size := by simp
  clear hb HS wr1
  rcases hres with ⟨l, m, A, cap, hrd, hln, rfl, hcap, hia⟩ | ⟨hno, A, cap, rfl, hcap, hia⟩
  ·
    obtain ⟨y0, rfl⟩ : ∃ y0, l = [y0] := by
      match l, hln with
      | [y0], _ => exact ⟨y0, rfl⟩
    obtain ⟨g, rfl, hlo, hgs, hcl⟩ : ∃ g, A = some ⟨g, 0, none⟩ ∧ _ ∧ g < w1.heap.size ∧ ∀ j (hj : j < ([y0] : List Int).length), w1.cell? ⟨g, j, none⟩ = some (.int .i64 (([y0] : List Int)[j]'hj)) := hia.resolve_left (by simp)
    have hgn : w.heap.size + 1 ≠ g := by
      have h := Nat.le_trans hsz0 hlo
      omega
    have c0 := hcl 0 (by simp)
    dsimp only [List.getElem_cons_zero, List.getElem_cons_succ] at c0
    have HK := Lib.hid (HEY.out _ _ hrd)
    obtain ⟨p, hp⟩ : ∃ p, a1 + m = p := ⟨_, rfl⟩
    have HP := Lib.hid hp
    rw [hp]
    clear hcl hia hrd hln hlo hsz0 hp
    obtain ⟨x0, x1, x2, x3, x4, x5, x6, x7, x8⟩ := H1.out.2.1.cells
    have fz := H1.out.2.1.free
    dsimp only at x0 x1 x2 x3 x4 x5 x6 x7 x8
    go_upto_region 34 with fail
    have H2 := Lib.hid (H1.out.st6 y0)
    have c0 := H1.out.cell hgn 6 0 (.int .i64 y0) _ c0
    clear x0 x1 x2 x3 x4 x5 x6 x7 x8 fz H1
    generalize w1.setCell ⟨w.heap.size + 1, 6, none⟩ (.int .i64 y0) = w2 at *
    obtain ⟨x0, x1, x2, x3, x4, x5, x6, x7, x8⟩ := H2.out.2.1.cells
    have fz := H2.out.2.1.free
    dsimp only at x0 x1 x2 x3 x4 x5 x6 x7 x8
    have HE := Lib.hid (HK.out.trans (by rw [show nFr 19 [y0] = ⟨18, 0, 0, ⟨#[]⟩, false, 0, y0, 0, true⟩ from rfl] : _ = chkF ⟨18, 0, 0, ⟨#[]⟩, false, 0, y0, 0, true⟩ (m + 1)))
    have HI := Lib.hid (sisf ⟨18, 0, 0, ⟨#[]⟩, false, 0, y0, 0, true⟩)
    by_cases hok : okF ⟨18, 0, 0, ⟨#[]⟩, false, 0, y0, 0, true⟩
    · rw [decide_eq_true hok] at HI
      have HK := Lib.hid (HE.out.trans (chkF_some _ hok))
      clear hok HE
      go_wp2_with fail
      refine (HI.out _).mono ?_
      rintro e wf ⟨rfl, hbf⟩
      have HF := Lib.hid (H2.out.next hbf)
      clear hbf x0 x1 x2 x3 x4 x5 x6 x7 x8 fz
      obtain ⟨r0, r1, r2, r3, r4, r5, r6, r7, r8⟩ := HF.out.1.cells
      have rz := HF.out.1.free
      obtain ⟨x0, x1, x2, x3, x4, x5, x6, x7, x8⟩ := HF.out.2.1.cells
      dsimp only at x0 x1 x2 x3 x4 x5 x6 x7 x8
      go_wp2
      refine bodyPost_ret (results_frame rfl _ _ w.heap.size _ _ _ _ rfl (HF.out.1.all ⟨18, 0, 0, ⟨#[]⟩, false, 0, y0, 0, true⟩) Tryd.underlying25 rfl (by kernel_rfl)) rfl ?_
      refine ⟨?_, setAll_below HF.out.2.2.1 (Nat.le_refl _) ⟨18, 0, 0, ⟨#[]⟩, false, 0, y0, 0, true⟩⟩
      rw [HK.out]
      show _ = Ending.returned (.tuple #[frV ⟨18, 0, 0, ⟨#[]⟩, false, 0, y0, 0, true⟩, .int .i64 ((a + (m + 1) : Nat) : Int), .bool true])
      rw [show a + (m + 1) = p by have h1 := HP.out; have h2 := HA.out; omega]
      rfl
    · rw [decide_eq_false hok] at HI
      have HK := Lib.hid (HE.out.trans (chkF_none _ hok))
      clear hok HE
      go_wp2_with fail
      refine (HI.out _).mono ?_
      rintro e wf ⟨rfl, hbf⟩
      have HF := Lib.hid (H2.out.next hbf)
      clear hbf x0 x1 x2 x3 x4 x5 x6 x7 x8 fz
      obtain ⟨r0, r1, r2, r3, r4, r5, r6, r7, r8⟩ := HF.out.1.cells
      have rz := HF.out.1.free
      go_wp2
      refine bodyPost_ret (results_frame rfl _ _ w.heap.size _ _ _ _ rfl (HF.out.1.all fr0) Tryd.underlying25 rfl (by kernel_rfl)) rfl ?_
      exact ⟨by rw [HK.out]; rfl, setAll_below HF.out.2.2.1 (Nat.le_refl _) fr0⟩
  ·
    obtain ⟨g, rfl, hlo, hgs, hcl⟩ : ∃ g, A = some ⟨g, 0, none⟩ ∧ _ ∧ g < w1.heap.size ∧ ∀ j (hj : j < ([0, 0, 0] : List Int).length), w1.cell? ⟨g, j, none⟩ = some (.int .i64 (([0, 0, 0] : List Int)[j]'hj)) := hia.resolve_left (by simp)
    have hgn : w.heap.size + 1 ≠ g := by
      have h := Nat.le_trans hsz0 hlo
      omega
    have c0 := hcl 0 (by simp)
    have c1 := hcl 1 (by simp)
    have c2 := hcl 2 (by simp)
    dsimp only [List.getElem_cons_zero, List.getElem_cons_succ] at c0 c1 c2
    have HK := Lib.hid (HEN.out hno)
    clear hcl hia hno hlo hsz0
    obtain ⟨x0, x1, x2, x3, x4, x5, x6, x7, x8⟩ := H1.out.2.1.cells
    have fz := H1.out.2.1.free
    dsimp only at x0 x1 x2 x3 x4 x5 x6 x7 x8
    go_upto_region 34 with fail
    have H2 := Lib.hid (H1.out.st6 0)
    have c0 := H1.out.cell hgn 6 0 (.int .i64 0) _ c0
    have c1 := H1.out.cell hgn 6 1 (.int .i64 0) _ c1
    have c2 := H1.out.cell hgn 6 2 (.int .i64 0) _ c2
    clear x0 x1 x2 x3 x4 x5 x6 x7 x8 fz H1
    generalize w1.setCell ⟨w.heap.size + 1, 6, none⟩ (.int .i64 0) = w2 at *
    obtain ⟨x0, x1, x2, x3, x4, x5, x6, x7, x8⟩ := H2.out.2.1.cells
    have fz := H2.out.2.1.free
    dsimp only at x0 x1 x2 x3 x4 x5 x6 x7 x8
    obtain ⟨r0, r1, r2, r3, r4, r5, r6, r7, r8⟩ := H2.out.1.cells
    have rz := H2.out.1.free
    go_wp2
    refine bodyPost_ret (results_frame rfl _ _ w.heap.size _ _ _ _ rfl (H2.out.1.all fr0) Tryd.underlying25 rfl (by kernel_rfl)) rfl ?_
    exact ⟨by rw [HK.out]; rfl, setAll_below H2.out.2.2.1 (Nat.le_refl _) fr0⟩

set_option maxRecDepth 100000 in
set_option maxHeartbeats 2000000 in
theorem sdecf_23 (s : ByteArray) (a : Nat) (w : World) (hs : s.size ≤ 1048576) (ha : a < s.size) (hb : s[a].toNat = 23) :
    Calls Tryd.prog 19 #[.string s, .int .i64 a] w (FrP a (decF (s.data.toList.drop a)) w) := by
  have hd : decide ((a : Int) < 0) = false := decide_eq_false (by omega)
  have hd2 : decide ((s.size : Int) ≤ (a : Int)) = false := decide_eq_false (by omega)
  have hd3 : decide (23 < (s[a].toNat : Int)) = false := decide_eq_false (by omega)
  obtain ⟨a1, ha1⟩ : ∃ a1, a + 1 = a1 := ⟨_, rfl⟩
  have h1s : a1 ≤ s.size := by omega
  have wr1 : wrap64 ((a : Int) + 1) = (a : Int) + 1 := by unfold wrap64; omega
  have hbl := s[a].toNat_lt
  have wrb : wrap64 (s[a].toNat : Int) = (s[a].toNat : Int) := by clear wr1; unfold wrap64; omega
  clear hbl
  have hcast : (a1 : Int) = (a : Int) + 1 := by clear wr1 wrb; omega
  have hno : ¬ (8 ≤ s[a].toNat ∧ s[a].toNat < 16) := by omega
  have hcn : cntK s[a].toNat = 1 := by rw [hb]; rfl
  have HEN := Lib.hid (fun (h : readN 1 (s.data.toList.drop a1) = none) => show decF (s.data.toList.drop a) = none by rw [drop_at s a ha]; exact decF_bad (by omega) hno (by rw [hcn, ha1]; exact h))
  have HEY := Lib.hid (fun (l : List Int) (m : Nat) (h : readN 1 (s.data.toList.drop a1) = some (l, m)) => show decF (s.data.toList.drop a) = chkF (nFr 23 l) (m + 1) by rw [drop_at s a ha]; exact (decF_num (by omega) hno (by rw [hcn, ha1]; exact h)).trans (by rw [hb]))
  have HS : Hid (∀ W, Calls Tryd.prog 61 #[.string s, .int .i64 a1, .int .i64 1] W (ReadP (s.data.toList.drop a1) a1 1 W)) := Lib.hid fun W => sread s a1 1 W hs (by decide)
  rw [hcast] at HS
  clear hcast
  have HA := Lib.hid ha1
  have HBB := Lib.hid hb
  clear hb hno hcn ha1
  go_enter Tryd.func19, Tryd.ntmps19
  go_upto_region 4 with fail
  have hb : wrap64 (s[a].toNat : Int) = 23 := by rw [wrb]; have := HBB.out; clear wr1 wrb; omega
  rw [hb]
  clear hb hd hd2 hd3 HBB wrb
  have H0 := Lib.hid (HeldS.start w ⟨22, 0, 0, ⟨#[]⟩, false, 0, 0, 0, true⟩)
  go_wp2_with fail
  refine (HS.out _).mono ?_
  rintro e w1 ⟨hres, hb⟩
  have H1 := Lib.hid (H0.out.next hb)
  have hsz0 : w.heap.size + 1 + 1 ≤ ((w.alloc (.cells (frC fr0) 25)).alloc (.cells (frC ⟨22, 0, 0, ⟨#[]⟩, false, 0, 0, 0, true⟩) 25)).heap.size := by simp
  clear hb HS wr1
  rcases hres with ⟨l, m, A, cap, hrd, hln, rfl, hcap, hia⟩ | ⟨hno, A, cap, rfl, hcap, hia⟩
  ·
    obtain ⟨y0, rfl⟩ : ∃ y0, l = [y0] := by
      match l, hln with
      | [y0], _ => exact ⟨y0, rfl⟩
    obtain ⟨g, rfl, hlo, hgs, hcl⟩ : ∃ g, A = some ⟨g, 0, none⟩ ∧ _ ∧ g < w1.heap.size ∧ ∀ j (hj : j < ([y0] : List Int).length), w1.cell? ⟨g, j, none⟩ = some (.int .i64 (([y0] : List Int)[j]'hj)) := hia.resolve_left (by simp)
    have hgn : w.heap.size + 1 ≠ g := by
      have h := Nat.le_trans hsz0 hlo
      omega
    have c0 := hcl 0 (by simp)
    dsimp only [List.getElem_cons_zero, List.getElem_cons_succ] at c0
    have HK := Lib.hid (HEY.out _ _ hrd)
    obtain ⟨p, hp⟩ : ∃ p, a1 + m = p := ⟨_, rfl⟩
    have HP := Lib.hid hp
    rw [hp]
    clear hcl hia hrd hln hlo hsz0 hp
    obtain ⟨x0, x1, x2, x3, x4, x5, x6, x7, x8⟩ := H1.out.2.1.cells
    have fz := H1.out.2.1.free
    dsimp only at x0 x1 x2 x3 x4 x5 x6 x7 x8
    go_upto_region 34 with fail
    have H2 := Lib.hid (H1.out.st6 y0)
    have c0 := H1.out.cell hgn 6 0 (.int .i64 y0) _ c0
    clear x0 x1 x2 x3 x4 x5 x6 x7 x8 fz H1
    generalize w1.setCell ⟨w.heap.size + 1, 6, none⟩ (.int .i64 y0) = w2 at *
    obtain ⟨x0, x1, x2, x3, x4, x5, x6, x7, x8⟩ := H2.out.2.1.cells
    have fz := H2.out.2.1.free
    dsimp only at x0 x1 x2 x3 x4 x5 x6 x7 x8
    have HE := Lib.hid (HK.out.trans (by rw [show nFr 23 [y0] = ⟨22, 0, 0, ⟨#[]⟩, false, 0, y0, 0, true⟩ from rfl] : _ = chkF ⟨22, 0, 0, ⟨#[]⟩, false, 0, y0, 0, true⟩ (m + 1)))
    have HI := Lib.hid (sisf ⟨22, 0, 0, ⟨#[]⟩, false, 0, y0, 0, true⟩)
    by_cases hok : okF ⟨22, 0, 0, ⟨#[]⟩, false, 0, y0, 0, true⟩
    · rw [decide_eq_true hok] at HI
      have HK := Lib.hid (HE.out.trans (chkF_some _ hok))
      clear hok HE
      go_wp2_with fail
      refine (HI.out _).mono ?_
      rintro e wf ⟨rfl, hbf⟩
      have HF := Lib.hid (H2.out.next hbf)
      clear hbf x0 x1 x2 x3 x4 x5 x6 x7 x8 fz
      obtain ⟨r0, r1, r2, r3, r4, r5, r6, r7, r8⟩ := HF.out.1.cells
      have rz := HF.out.1.free
      obtain ⟨x0, x1, x2, x3, x4, x5, x6, x7, x8⟩ := HF.out.2.1.cells
      dsimp only at x0 x1 x2 x3 x4 x5 x6 x7 x8
      go_wp2
      refine bodyPost_ret (results_frame rfl _ _ w.heap.size _ _ _ _ rfl (HF.out.1.all ⟨22, 0, 0, ⟨#[]⟩, false, 0, y0, 0, true⟩) Tryd.underlying25 rfl (by kernel_rfl)) rfl ?_
      refine ⟨?_, setAll_below HF.out.2.2.1 (Nat.le_refl _) ⟨22, 0, 0, ⟨#[]⟩, false, 0, y0, 0, true⟩⟩
      rw [HK.out]
      show _ = Ending.returned (.tuple #[frV ⟨22, 0, 0, ⟨#[]⟩, false, 0, y0, 0, true⟩, .int .i64 ((a + (m + 1) : Nat) : Int), .bool true])
      rw [show a + (m + 1) = p by have h1 := HP.out; have h2 := HA.out; omega]
      rfl
    · rw [decide_eq_false hok] at HI
      have HK := Lib.hid (HE.out.trans (chkF_none _ hok))
      clear hok HE
      go_wp2_with fail
      refine (HI.out _).mono ?_
      rintro e wf ⟨rfl, hbf⟩
      have HF := Lib.hid (H2.out.next hbf)
      clear hbf x0 x1 x2 x3 x4 x5 x6 x7 x8 fz
      obtain ⟨r0, r1, r2, r3, r4, r5, r6, r7, r8⟩ := HF.out.1.cells
      have rz := HF.out.1.free
      go_wp2
      refine bodyPost_ret (results_frame rfl _ _ w.heap.size _ _ _ _ rfl (HF.out.1.all fr0) Tryd.underlying25 rfl (by kernel_rfl)) rfl ?_
      exact ⟨by rw [HK.out]; rfl, setAll_below HF.out.2.2.1 (Nat.le_refl _) fr0⟩
  ·
    obtain ⟨g, rfl, hlo, hgs, hcl⟩ : ∃ g, A = some ⟨g, 0, none⟩ ∧ _ ∧ g < w1.heap.size ∧ ∀ j (hj : j < ([0, 0, 0] : List Int).length), w1.cell? ⟨g, j, none⟩ = some (.int .i64 (([0, 0, 0] : List Int)[j]'hj)) := hia.resolve_left (by simp)
    have hgn : w.heap.size + 1 ≠ g := by
      have h := Nat.le_trans hsz0 hlo
      omega
    have c0 := hcl 0 (by simp)
    have c1 := hcl 1 (by simp)
    have c2 := hcl 2 (by simp)
    dsimp only [List.getElem_cons_zero, List.getElem_cons_succ] at c0 c1 c2
    have HK := Lib.hid (HEN.out hno)
    clear hcl hia hno hlo hsz0
    obtain ⟨x0, x1, x2, x3, x4, x5, x6, x7, x8⟩ := H1.out.2.1.cells
    have fz := H1.out.2.1.free
    dsimp only at x0 x1 x2 x3 x4 x5 x6 x7 x8
    go_upto_region 34 with fail
    have H2 := Lib.hid (H1.out.st6 0)
    have c0 := H1.out.cell hgn 6 0 (.int .i64 0) _ c0
    have c1 := H1.out.cell hgn 6 1 (.int .i64 0) _ c1
    have c2 := H1.out.cell hgn 6 2 (.int .i64 0) _ c2
    clear x0 x1 x2 x3 x4 x5 x6 x7 x8 fz H1
    generalize w1.setCell ⟨w.heap.size + 1, 6, none⟩ (.int .i64 0) = w2 at *
    obtain ⟨x0, x1, x2, x3, x4, x5, x6, x7, x8⟩ := H2.out.2.1.cells
    have fz := H2.out.2.1.free
    dsimp only at x0 x1 x2 x3 x4 x5 x6 x7 x8
    obtain ⟨r0, r1, r2, r3, r4, r5, r6, r7, r8⟩ := H2.out.1.cells
    have rz := H2.out.1.free
    go_wp2
    refine bodyPost_ret (results_frame rfl _ _ w.heap.size _ _ _ _ rfl (H2.out.1.all fr0) Tryd.underlying25 rfl (by kernel_rfl)) rfl ?_
    exact ⟨by rw [HK.out]; rfl, setAll_below H2.out.2.2.1 (Nat.le_refl _) fr0⟩

set_option maxRecDepth 100000 in
set_option maxHeartbeats 2000000 in
theorem sdecf_other (s : ByteArray) (a : Nat) (w : World) (hs : s.size ≤ 1048576) (ha : a < s.size) (hb : s[a].toNat ≤ 23 ∧ s[a].toNat ≠ 4 ∧ s[a].toNat ≠ 5 ∧ s[a].toNat ≠ 17 ∧ s[a].toNat ≠ 21 ∧ s[a].toNat ≠ 19 ∧ s[a].toNat ≠ 23 ∧ ¬ (8 ≤ s[a].toNat ∧ s[a].toNat < 16)) :
    Calls Tryd.prog 19 #[.string s, .int .i64 a] w (FrP a (decF (s.data.toList.drop a)) w) := by
  have hd : decide ((a : Int) < 0) = false := decide_eq_false (by omega)
  have hd2 : decide ((s.size : Int) ≤ (a : Int)) = false := decide_eq_false (by omega)
  have hd3 : decide (23 < (s[a].toNat : Int)) = false := decide_eq_false (by omega)
  obtain ⟨a1, ha1⟩ : ∃ a1, a + 1 = a1 := ⟨_, rfl⟩
  have h1s : a1 ≤ s.size := by omega
  have wr1 : wrap64 ((a : Int) + 1) = (a : Int) + 1 := by unfold wrap64; omega
  have hbl := s[a].toNat_lt
  have wrb : wrap64 (s[a].toNat : Int) = (s[a].toNat : Int) := by clear wr1; unfold wrap64; omega
  clear hbl
  have hcast : (a1 : Int) = (a : Int) + 1 := by clear wr1 wrb; omega
  have hno : ¬ (8 ≤ s[a].toNat ∧ s[a].toNat < 16) := by omega
  have hcn : cntK s[a].toNat = 1 := by unfold cntK; rw [if_neg (by omega), if_neg (by omega)]
  have HEN := Lib.hid (fun (h : readN 1 (s.data.toList.drop a1) = none) => show decF (s.data.toList.drop a) = none by rw [drop_at s a ha]; exact decF_bad (by omega) hno (by rw [hcn, ha1]; exact h))
  have HEY := Lib.hid (fun (l : List Int) (m : Nat) (h : readN 1 (s.data.toList.drop a1) = some (l, m)) => show decF (s.data.toList.drop a) = chkF (nFr s[a].toNat l) (m + 1) by rw [drop_at s a ha]; exact (decF_num (by omega) hno (by rw [hcn, ha1]; exact h)).trans rfl)
  have HS : Hid (∀ W, Calls Tryd.prog 61 #[.string s, .int .i64 a1, .int .i64 1] W (ReadP (s.data.toList.drop a1) a1 1 W)) := Lib.hid fun W => sread s a1 1 W hs (by decide)
  rw [hcast] at HS
  clear hcast
  have HA := Lib.hid ha1
  have HB := Lib.hid hb
  have HBB := Lib.hid hb
  clear hb hno hcn ha1
  go_enter Tryd.func19, Tryd.ntmps19
  go_upto_region 4 with fail
  rw [wrb]
  clear wrb
  have k1 : decide (8 ≤ (s[a].toNat : Int)) = false ∨ (decide (8 ≤ (s[a].toNat : Int)) = true ∧ decide ((s[a].toNat : Int) < 16) = false) := by
    have := HBB.out
    by_cases h8 : 8 ≤ s[a].toNat
    · exact .inr ⟨decide_eq_true (by omega), decide_eq_false (by omega)⟩
    · exact .inl (decide_eq_false (by omega))
  have e1 : ((s[a].toNat : Int) == 4) = false := by have := HBB.out; simp; omega
  have e2 : ((s[a].toNat : Int) == 5) = false := by have := HBB.out; simp; omega
  have e3 : ((s[a].toNat : Int) == 17) = false := by have := HBB.out; simp; omega
  have e4 : ((s[a].toNat : Int) == 21) = false := by have := HBB.out; simp; omega
  have e5 : ((s[a].toNat : Int) == 19) = false := by have := HBB.out; simp; omega
  have e6 : ((s[a].toNat : Int) == 23) = false := by have := HBB.out; simp; omega
  have HNF := Lib.hid (show ∀ y0 : Int, nFr s[a].toNat [y0] = ⟨s[a].toNat, 0, 0, ⟨#[]⟩, false, 0, y0, 0, false⟩ from fun y0 => by have := HBB.out; unfold nFr; rw [if_neg (by omega), if_neg (by omega), if_neg (by omega), if_neg (by omega)]; rfl)
  clear hd hd2 hd3
  clear HBB HB
  generalize (s[a].toNat) = c at *
  clear ha
  have H0 := Lib.hid (HeldS.start w ⟨(c : Int), 0, 0, ⟨#[]⟩, false, 0, 0, 0, false⟩)
  rcases k1 with k1 | ⟨k1, k2⟩
  all_goals (
    go_wp2_with fail
    refine (HS.out _).mono ?_
    rintro e w1 ⟨hres, hb⟩
    have H1 := Lib.hid (H0.out.next hb)
    have hsz0 : w.heap.size + 1 + 1 ≤ ((w.alloc (.cells (frC fr0) 25)).alloc (.cells (frC ⟨c, 0, 0, ⟨#[]⟩, false, 0, 0, 0, false⟩) 25)).heap.size := by simp
    clear hb HS wr1
    rcases hres with ⟨l, m, A, cap, hrd, hln, rfl, hcap, hia⟩ | ⟨hno, A, cap, rfl, hcap, hia⟩
    ·
      obtain ⟨y0, rfl⟩ : ∃ y0, l = [y0] := by
        match l, hln with
        | [y0], _ => exact ⟨y0, rfl⟩
      obtain ⟨g, rfl, hlo, hgs, hcl⟩ : ∃ g, A = some ⟨g, 0, none⟩ ∧ _ ∧ g < w1.heap.size ∧ ∀ j (hj : j < ([y0] : List Int).length), w1.cell? ⟨g, j, none⟩ = some (.int .i64 (([y0] : List Int)[j]'hj)) := hia.resolve_left (by simp)
      have hgn : w.heap.size + 1 ≠ g := by
        have h := Nat.le_trans hsz0 hlo
        omega
      have c0 := hcl 0 (by simp)
      dsimp only [List.getElem_cons_zero, List.getElem_cons_succ] at c0
      have HK := Lib.hid (HEY.out _ _ hrd)
      obtain ⟨p, hp⟩ : ∃ p, a1 + m = p := ⟨_, rfl⟩
      have HP := Lib.hid hp
      rw [hp]
      clear hcl hia hrd hln hlo hsz0 hp
      obtain ⟨x0, x1, x2, x3, x4, x5, x6, x7, x8⟩ := H1.out.2.1.cells
      have fz := H1.out.2.1.free
      dsimp only at x0 x1 x2 x3 x4 x5 x6 x7 x8
      go_upto_region 34 with fail
      have H2 := Lib.hid (H1.out.st6 y0)
      have c0 := H1.out.cell hgn 6 0 (.int .i64 y0) _ c0
      clear x0 x1 x2 x3 x4 x5 x6 x7 x8 fz H1
      generalize w1.setCell ⟨w.heap.size + 1, 6, none⟩ (.int .i64 y0) = w2 at *
      obtain ⟨x0, x1, x2, x3, x4, x5, x6, x7, x8⟩ := H2.out.2.1.cells
      have fz := H2.out.2.1.free
      dsimp only at x0 x1 x2 x3 x4 x5 x6 x7 x8
      have HE := Lib.hid (HK.out.trans (by rw [show nFr c [y0] = ⟨(c : Int), 0, 0, ⟨#[]⟩, false, 0, y0, 0, false⟩ from HNF.out y0] : _ = chkF ⟨(c : Int), 0, 0, ⟨#[]⟩, false, 0, y0, 0, false⟩ (m + 1)))
      have HI := Lib.hid (sisf ⟨(c : Int), 0, 0, ⟨#[]⟩, false, 0, y0, 0, false⟩)
      by_cases hok : okF ⟨(c : Int), 0, 0, ⟨#[]⟩, false, 0, y0, 0, false⟩
      · rw [decide_eq_true hok] at HI
        have HK := Lib.hid (HE.out.trans (chkF_some _ hok))
        clear hok HE
        go_wp2_with fail
        refine (HI.out _).mono ?_
        rintro e wf ⟨rfl, hbf⟩
        have HF := Lib.hid (H2.out.next hbf)
        clear hbf x0 x1 x2 x3 x4 x5 x6 x7 x8 fz
        obtain ⟨r0, r1, r2, r3, r4, r5, r6, r7, r8⟩ := HF.out.1.cells
        have rz := HF.out.1.free
        obtain ⟨x0, x1, x2, x3, x4, x5, x6, x7, x8⟩ := HF.out.2.1.cells
        dsimp only at x0 x1 x2 x3 x4 x5 x6 x7 x8
        go_wp2
        refine bodyPost_ret (results_frame rfl _ _ w.heap.size _ _ _ _ rfl (HF.out.1.all ⟨(c : Int), 0, 0, ⟨#[]⟩, false, 0, y0, 0, false⟩) Tryd.underlying25 rfl (by kernel_rfl)) rfl ?_
        refine ⟨?_, setAll_below HF.out.2.2.1 (Nat.le_refl _) ⟨(c : Int), 0, 0, ⟨#[]⟩, false, 0, y0, 0, false⟩⟩
        rw [HK.out]
        show _ = Ending.returned (.tuple #[frV ⟨(c : Int), 0, 0, ⟨#[]⟩, false, 0, y0, 0, false⟩, .int .i64 ((a + (m + 1) : Nat) : Int), .bool true])
        rw [show a + (m + 1) = p by have h1 := HP.out; have h2 := HA.out; omega]
        rfl
      · rw [decide_eq_false hok] at HI
        have HK := Lib.hid (HE.out.trans (chkF_none _ hok))
        clear hok HE
        go_wp2_with fail
        refine (HI.out _).mono ?_
        rintro e wf ⟨rfl, hbf⟩
        have HF := Lib.hid (H2.out.next hbf)
        clear hbf x0 x1 x2 x3 x4 x5 x6 x7 x8 fz
        obtain ⟨r0, r1, r2, r3, r4, r5, r6, r7, r8⟩ := HF.out.1.cells
        have rz := HF.out.1.free
        go_wp2
        refine bodyPost_ret (results_frame rfl _ _ w.heap.size _ _ _ _ rfl (HF.out.1.all fr0) Tryd.underlying25 rfl (by kernel_rfl)) rfl ?_
        exact ⟨by rw [HK.out]; rfl, setAll_below HF.out.2.2.1 (Nat.le_refl _) fr0⟩
    ·
      obtain ⟨g, rfl, hlo, hgs, hcl⟩ : ∃ g, A = some ⟨g, 0, none⟩ ∧ _ ∧ g < w1.heap.size ∧ ∀ j (hj : j < ([0, 0, 0] : List Int).length), w1.cell? ⟨g, j, none⟩ = some (.int .i64 (([0, 0, 0] : List Int)[j]'hj)) := hia.resolve_left (by simp)
      have hgn : w.heap.size + 1 ≠ g := by
        have h := Nat.le_trans hsz0 hlo
        omega
      have c0 := hcl 0 (by simp)
      have c1 := hcl 1 (by simp)
      have c2 := hcl 2 (by simp)
      dsimp only [List.getElem_cons_zero, List.getElem_cons_succ] at c0 c1 c2
      have HK := Lib.hid (HEN.out hno)
      clear hcl hia hno hlo hsz0
      obtain ⟨x0, x1, x2, x3, x4, x5, x6, x7, x8⟩ := H1.out.2.1.cells
      have fz := H1.out.2.1.free
      dsimp only at x0 x1 x2 x3 x4 x5 x6 x7 x8
      go_upto_region 34 with fail
      have H2 := Lib.hid (H1.out.st6 0)
      have c0 := H1.out.cell hgn 6 0 (.int .i64 0) _ c0
      have c1 := H1.out.cell hgn 6 1 (.int .i64 0) _ c1
      have c2 := H1.out.cell hgn 6 2 (.int .i64 0) _ c2
      clear x0 x1 x2 x3 x4 x5 x6 x7 x8 fz H1
      generalize w1.setCell ⟨w.heap.size + 1, 6, none⟩ (.int .i64 0) = w2 at *
      obtain ⟨x0, x1, x2, x3, x4, x5, x6, x7, x8⟩ := H2.out.2.1.cells
      have fz := H2.out.2.1.free
      dsimp only at x0 x1 x2 x3 x4 x5 x6 x7 x8
      obtain ⟨r0, r1, r2, r3, r4, r5, r6, r7, r8⟩ := H2.out.1.cells
      have rz := H2.out.1.free
      go_wp2
      refine bodyPost_ret (results_frame rfl _ _ w.heap.size _ _ _ _ rfl (H2.out.1.all fr0) Tryd.underlying25 rfl (by kernel_rfl)) rfl ?_
      exact ⟨by rw [HK.out]; rfl, setAll_below H2.out.2.2.1 (Nat.le_refl _) fr0⟩)

/-- spec.DecodeFrame -/
theorem sdecf (s : ByteArray) (a : Nat) (w : World) (hs : s.size ≤ 1048576) :
    Calls Tryd.prog 19 #[.string s, .int .i64 a] w (FrP a (decF (s.data.toList.drop a)) w) := by
  have h3 : s.data.toList.length = s.size := by simp
  by_cases ha : a < s.size
  · by_cases hb : 23 < s[a].toNat
    · rw [drop_at s a ha, decF_big hb]
      exact sdecf_no s a w hs (.inr (.inr ⟨a, ha, rfl, hb⟩))
    by_cases h8 : 8 ≤ s[a].toNat ∧ s[a].toNat < 16
    · exact sdecf_stream s a w hs ha h8.1 h8.2
    by_cases e4 : s[a].toNat = 4
    · exact sdecf_4 s a w hs ha e4
    by_cases e5 : s[a].toNat = 5
    · exact sdecf_5 s a w hs ha e5
    by_cases e17 : s[a].toNat = 17
    · exact sdecf_17 s a w hs ha e17
    by_cases e21 : s[a].toNat = 21
    · exact sdecf_21 s a w hs ha e21
    by_cases e19 : s[a].toNat = 19
    · exact sdecf_19 s a w hs ha e19
    by_cases e23 : s[a].toNat = 23
    · exact sdecf_23 s a w hs ha e23
    exact sdecf_other s a w hs ha ⟨by omega, e4, e5, e17, e21, e19, e23, h8⟩
  · rw [List.drop_eq_nil_of_le (by omega)]
    exact sdecf_no s a w hs (.inr (.inl (by omega)))
end Go.Proofs.YtjbppociogoopaaDoor
