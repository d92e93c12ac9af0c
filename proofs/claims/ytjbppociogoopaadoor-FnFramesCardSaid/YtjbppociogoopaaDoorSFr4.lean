/-
  What spec.EncodeFrame and FrameSize return.
-/
import Derived.Test.YtjbppociogoopaaDoorSFr3
import Derived.Test.YtjbppociogoopaaDoorSEncQs
namespace Go.Proofs.YtjbppociogoopaaDoor
open Go.RowKit Go.Deep Go.Proofs.YtjbppociogoopaaDoor.Num

theorem Ints.lit (w : World) (zs : List Int) : Ints (w.alloc (.cells (cellsI zs) 3)) (w.heap.size + 1) (some ⟨w.heap.size, 0, none⟩) zs := by
  intro j hj
  refine ⟨w.heap.size, 0, rfl, by omega, ?_⟩
  have h := cell_of_row _ _ (0 + j) _ _ _ (heap_alloc_new w (.cells (cellsI zs) 3))
  rw [h]
  simp [cellsI, valsI, List.getElem?_eq_getElem hj]
/-- spec.EncodeQuics of a literal. -/
theorem senc_lit (zs : List Int) (w : World) (n : Nat) (hn : zs.length = n) (hz : ∀ z ∈ zs, qsz z ≠ 0) (hl : n ≤ 1048576) :
    Calls Tryd.prog 51 #[.slice (some ⟨w.heap.size, 0, none⟩) n n] (w.alloc (.cells (cellsI zs) 3)) fun e w' => e = .returned (.string ⟨(encQs zs).toArray⟩) ∧ Below w.heap.size w w' := by
  subst hn
  refine (sencqs zs _ zs.length (w.heap.size + 1) _ (by simp) (Ints.lit w zs) hl (fun z h => by have := mt (qsz_zero z).2 (hz z h); omega)).mono ?_
  rintro e w' ⟨rfl, hb⟩
  exact ⟨rfl, ((Below.refl _ _).alloc (Nat.le_refl _) _).trans (hb.mono (by simp))⟩
theorem encF_plain (f : Fr) (zs : List Int) (h : okF f) (h8 : f.kind ≠ 8) (hz : headF f = zs) : (⟨(encF f).toArray⟩ : ByteArray) = ⟨(encQs zs).toArray⟩ := by
  unfold encF
  rw [if_pos h, if_neg h8, hz, List.append_nil]
theorem encF_data (f : Fr) (zs : List Int) (h : okF f) (h8 : f.kind = 8) (hz : headF f = zs) : (⟨(encF f).toArray⟩ : ByteArray) = ⟨(encQs zs).toArray⟩ ++ f.data := by
  unfold encF
  rw [if_pos h, if_pos h8, hz]
  apply ByteArray.ext
  simp

set_option maxRecDepth 100000 in
set_option maxHeartbeats 1000000 in
theorem sencf4 (st ofs co li fl : Int) (dt : ByteArray) (fi un : Bool) (w : World) (hok : okF ⟨4, st, ofs, dt, fi, co, li, fl, un⟩) :
    Calls Tryd.prog 14 #[frV ⟨4, st, ofs, dt, fi, co, li, fl, un⟩] w fun e w' => e = .returned (.string ⟨(encF ⟨4, st, ofs, dt, fi, co, li, fl, un⟩).toArray⟩) ∧ Below w.heap.size w w' := by
  have HI := Lib.hid (sisf ⟨4, st, ofs, dt, fi, co, li, fl, un⟩)
  rw [decide_eq_true hok] at HI
  have HOK := Lib.hid hok
  have H0 := Lib.hid (HeldF.start w ⟨4, st, ofs, dt, fi, co, li, fl, un⟩)
  clear hok
  go_enter Tryd.func14, Tryd.ntmps14
  go_wp2_with fail
  refine (HI.out _).mono ?_
  rintro e w1 ⟨rfl, hb1⟩
  have H1 := Lib.hid (H0.out.next hb1)
  clear hb1 HI
  obtain ⟨f0, f1, f2, f3, f4, f5, f6, f7, f8⟩ := H1.out.1.cells
  dsimp only at f0 f1 f2 f3 f4 f5 f6 f7 f8
  have HS := Lib.hid (encF_plain _ [4, st, co, fl] HOK.out (show (4 : Int) ≠ 8 by decide) rfl)
  have HE := Lib.hid (senc_lit [4, st, co, fl] w1 4 rfl (by have := headF_fit _ HOK.out; exact this) (by decide))
  go_wp2_with fail
  refine (HE.out).mono ?_
  rintro e w2 ⟨rfl, hb2⟩
  have H2 := Lib.hid (H1.out.next hb2)
  clear hb2
  go_wp2
  go_ret
  exact ⟨by rw [HS.out]; rfl, H2.out.2⟩

set_option maxRecDepth 100000 in
set_option maxHeartbeats 1000000 in
theorem sencf5 (st ofs co li fl : Int) (dt : ByteArray) (fi un : Bool) (w : World) (hok : okF ⟨5, st, ofs, dt, fi, co, li, fl, un⟩) :
    Calls Tryd.prog 14 #[frV ⟨5, st, ofs, dt, fi, co, li, fl, un⟩] w fun e w' => e = .returned (.string ⟨(encF ⟨5, st, ofs, dt, fi, co, li, fl, un⟩).toArray⟩) ∧ Below w.heap.size w w' := by
  have HI := Lib.hid (sisf ⟨5, st, ofs, dt, fi, co, li, fl, un⟩)
  rw [decide_eq_true hok] at HI
  have HOK := Lib.hid hok
  have H0 := Lib.hid (HeldF.start w ⟨5, st, ofs, dt, fi, co, li, fl, un⟩)
  clear hok
  go_enter Tryd.func14, Tryd.ntmps14
  go_wp2_with fail
  refine (HI.out _).mono ?_
  rintro e w1 ⟨rfl, hb1⟩
  have H1 := Lib.hid (H0.out.next hb1)
  clear hb1 HI
  obtain ⟨f0, f1, f2, f3, f4, f5, f6, f7, f8⟩ := H1.out.1.cells
  dsimp only at f0 f1 f2 f3 f4 f5 f6 f7 f8
  have HS := Lib.hid (encF_plain _ [5, st, co] HOK.out (show (5 : Int) ≠ 8 by decide) rfl)
  have HE := Lib.hid (senc_lit [5, st, co] w1 3 rfl (by have := headF_fit _ HOK.out; exact this) (by decide))
  go_wp2_with fail
  refine (HE.out).mono ?_
  rintro e w2 ⟨rfl, hb2⟩
  have H2 := Lib.hid (H1.out.next hb2)
  clear hb2
  go_wp2
  go_ret
  exact ⟨by rw [HS.out]; rfl, H2.out.2⟩

set_option maxRecDepth 100000 in
set_option maxHeartbeats 1000000 in
theorem sencf16 (st ofs co li fl : Int) (dt : ByteArray) (fi un : Bool) (w : World) (hok : okF ⟨16, st, ofs, dt, fi, co, li, fl, un⟩) :
    Calls Tryd.prog 14 #[frV ⟨16, st, ofs, dt, fi, co, li, fl, un⟩] w fun e w' => e = .returned (.string ⟨(encF ⟨16, st, ofs, dt, fi, co, li, fl, un⟩).toArray⟩) ∧ Below w.heap.size w w' := by
  have HI := Lib.hid (sisf ⟨16, st, ofs, dt, fi, co, li, fl, un⟩)
  rw [decide_eq_true hok] at HI
  have HOK := Lib.hid hok
  have H0 := Lib.hid (HeldF.start w ⟨16, st, ofs, dt, fi, co, li, fl, un⟩)
  clear hok
  go_enter Tryd.func14, Tryd.ntmps14
  go_wp2_with fail
  refine (HI.out _).mono ?_
  rintro e w1 ⟨rfl, hb1⟩
  have H1 := Lib.hid (H0.out.next hb1)
  clear hb1 HI
  obtain ⟨f0, f1, f2, f3, f4, f5, f6, f7, f8⟩ := H1.out.1.cells
  dsimp only at f0 f1 f2 f3 f4 f5 f6 f7 f8
  have HS := Lib.hid (encF_plain _ [16, li] HOK.out (show (16 : Int) ≠ 8 by decide) rfl)
  have HE := Lib.hid (senc_lit [16, li] w1 2 rfl (by have := headF_fit _ HOK.out; exact this) (by decide))
  go_wp2_with fail
  refine (HE.out).mono ?_
  rintro e w2 ⟨rfl, hb2⟩
  have H2 := Lib.hid (H1.out.next hb2)
  clear hb2
  go_wp2
  go_ret
  exact ⟨by rw [HS.out]; rfl, H2.out.2⟩

set_option maxRecDepth 100000 in
set_option maxHeartbeats 1000000 in
theorem sencf20 (st ofs co li fl : Int) (dt : ByteArray) (fi un : Bool) (w : World) (hok : okF ⟨20, st, ofs, dt, fi, co, li, fl, un⟩) :
    Calls Tryd.prog 14 #[frV ⟨20, st, ofs, dt, fi, co, li, fl, un⟩] w fun e w' => e = .returned (.string ⟨(encF ⟨20, st, ofs, dt, fi, co, li, fl, un⟩).toArray⟩) ∧ Below w.heap.size w w' := by
  have HI := Lib.hid (sisf ⟨20, st, ofs, dt, fi, co, li, fl, un⟩)
  rw [decide_eq_true hok] at HI
  have HOK := Lib.hid hok
  have H0 := Lib.hid (HeldF.start w ⟨20, st, ofs, dt, fi, co, li, fl, un⟩)
  clear hok
  go_enter Tryd.func14, Tryd.ntmps14
  go_wp2_with fail
  refine (HI.out _).mono ?_
  rintro e w1 ⟨rfl, hb1⟩
  have H1 := Lib.hid (H0.out.next hb1)
  clear hb1 HI
  obtain ⟨f0, f1, f2, f3, f4, f5, f6, f7, f8⟩ := H1.out.1.cells
  dsimp only at f0 f1 f2 f3 f4 f5 f6 f7 f8
  have HS := Lib.hid (encF_plain _ [20, li] HOK.out (show (20 : Int) ≠ 8 by decide) rfl)
  have HE := Lib.hid (senc_lit [20, li] w1 2 rfl (by have := headF_fit _ HOK.out; exact this) (by decide))
  go_wp2_with fail
  refine (HE.out).mono ?_
  rintro e w2 ⟨rfl, hb2⟩
  have H2 := Lib.hid (H1.out.next hb2)
  clear hb2
  go_wp2
  go_ret
  exact ⟨by rw [HS.out]; rfl, H2.out.2⟩

set_option maxRecDepth 100000 in
set_option maxHeartbeats 1000000 in
theorem sencf17 (st ofs co li fl : Int) (dt : ByteArray) (fi un : Bool) (w : World) (hok : okF ⟨17, st, ofs, dt, fi, co, li, fl, un⟩) :
    Calls Tryd.prog 14 #[frV ⟨17, st, ofs, dt, fi, co, li, fl, un⟩] w fun e w' => e = .returned (.string ⟨(encF ⟨17, st, ofs, dt, fi, co, li, fl, un⟩).toArray⟩) ∧ Below w.heap.size w w' := by
  have HI := Lib.hid (sisf ⟨17, st, ofs, dt, fi, co, li, fl, un⟩)
  rw [decide_eq_true hok] at HI
  have HOK := Lib.hid hok
  have H0 := Lib.hid (HeldF.start w ⟨17, st, ofs, dt, fi, co, li, fl, un⟩)
  clear hok
  go_enter Tryd.func14, Tryd.ntmps14
  go_wp2_with fail
  refine (HI.out _).mono ?_
  rintro e w1 ⟨rfl, hb1⟩
  have H1 := Lib.hid (H0.out.next hb1)
  clear hb1 HI
  obtain ⟨f0, f1, f2, f3, f4, f5, f6, f7, f8⟩ := H1.out.1.cells
  dsimp only at f0 f1 f2 f3 f4 f5 f6 f7 f8
  have HS := Lib.hid (encF_plain _ [17, st, li] HOK.out (show (17 : Int) ≠ 8 by decide) rfl)
  have HE := Lib.hid (senc_lit [17, st, li] w1 3 rfl (by have := headF_fit _ HOK.out; exact this) (by decide))
  go_wp2_with fail
  refine (HE.out).mono ?_
  rintro e w2 ⟨rfl, hb2⟩
  have H2 := Lib.hid (H1.out.next hb2)
  clear hb2
  go_wp2
  go_ret
  exact ⟨by rw [HS.out]; rfl, H2.out.2⟩

set_option maxRecDepth 100000 in
set_option maxHeartbeats 1000000 in
theorem sencf21 (st ofs co li fl : Int) (dt : ByteArray) (fi un : Bool) (w : World) (hok : okF ⟨21, st, ofs, dt, fi, co, li, fl, un⟩) :
    Calls Tryd.prog 14 #[frV ⟨21, st, ofs, dt, fi, co, li, fl, un⟩] w fun e w' => e = .returned (.string ⟨(encF ⟨21, st, ofs, dt, fi, co, li, fl, un⟩).toArray⟩) ∧ Below w.heap.size w w' := by
  have HI := Lib.hid (sisf ⟨21, st, ofs, dt, fi, co, li, fl, un⟩)
  rw [decide_eq_true hok] at HI
  have HOK := Lib.hid hok
  have H0 := Lib.hid (HeldF.start w ⟨21, st, ofs, dt, fi, co, li, fl, un⟩)
  clear hok
  go_enter Tryd.func14, Tryd.ntmps14
  go_wp2_with fail
  refine (HI.out _).mono ?_
  rintro e w1 ⟨rfl, hb1⟩
  have H1 := Lib.hid (H0.out.next hb1)
  clear hb1 HI
  obtain ⟨f0, f1, f2, f3, f4, f5, f6, f7, f8⟩ := H1.out.1.cells
  dsimp only at f0 f1 f2 f3 f4 f5 f6 f7 f8
  have HS := Lib.hid (encF_plain _ [21, st, li] HOK.out (show (21 : Int) ≠ 8 by decide) rfl)
  have HE := Lib.hid (senc_lit [21, st, li] w1 3 rfl (by have := headF_fit _ HOK.out; exact this) (by decide))
  go_wp2_with fail
  refine (HE.out).mono ?_
  rintro e w2 ⟨rfl, hb2⟩
  have H2 := Lib.hid (H1.out.next hb2)
  clear hb2
  go_wp2
  go_ret
  exact ⟨by rw [HS.out]; rfl, H2.out.2⟩

set_option maxRecDepth 100000 in
set_option maxHeartbeats 1000000 in
theorem sencf18 (st ofs co li fl : Int) (dt : ByteArray) (fi un : Bool) (w : World) (hok : okF ⟨18, st, ofs, dt, fi, co, li, fl, un⟩) :
    Calls Tryd.prog 14 #[frV ⟨18, st, ofs, dt, fi, co, li, fl, un⟩] w fun e w' => e = .returned (.string ⟨(encF ⟨18, st, ofs, dt, fi, co, li, fl, un⟩).toArray⟩) ∧ Below w.heap.size w w' := by
  have HI := Lib.hid (sisf ⟨18, st, ofs, dt, fi, co, li, fl, un⟩)
  rw [decide_eq_true hok] at HI
  have HOK := Lib.hid hok
  have H0 := Lib.hid (HeldF.start w ⟨18, st, ofs, dt, fi, co, li, fl, un⟩)
  cases un
  case false =>
    clear hok
    go_enter Tryd.func14, Tryd.ntmps14
    go_wp2_with fail
    refine (HI.out _).mono ?_
    rintro e w1 ⟨rfl, hb1⟩
    have H1 := Lib.hid (H0.out.next hb1)
    clear hb1 HI
    obtain ⟨f0, f1, f2, f3, f4, f5, f6, f7, f8⟩ := H1.out.1.cells
    dsimp only at f0 f1 f2 f3 f4 f5 f6 f7 f8
    have HS := Lib.hid (encF_plain _ [18, li] HOK.out (show (18 : Int) ≠ 8 by decide) rfl)
    have HE := Lib.hid (senc_lit [18, li] w1 2 rfl (by have := headF_fit _ HOK.out; exact this) (by decide))
    go_wp2_with fail
    refine (HE.out).mono ?_
    rintro e w2 ⟨rfl, hb2⟩
    have H2 := Lib.hid (H1.out.next hb2)
    clear hb2
    go_wp2
    go_ret
    exact ⟨by rw [HS.out]; rfl, H2.out.2⟩
  case true =>
    clear hok
    go_enter Tryd.func14, Tryd.ntmps14
    go_wp2_with fail
    refine (HI.out _).mono ?_
    rintro e w1 ⟨rfl, hb1⟩
    have H1 := Lib.hid (H0.out.next hb1)
    clear hb1 HI
    obtain ⟨f0, f1, f2, f3, f4, f5, f6, f7, f8⟩ := H1.out.1.cells
    dsimp only at f0 f1 f2 f3 f4 f5 f6 f7 f8
    have HS := Lib.hid (encF_plain _ [19, li] HOK.out (show (18 : Int) ≠ 8 by decide) rfl)
    have HE := Lib.hid (senc_lit [19, li] w1 2 rfl (by have := headF_fit _ HOK.out; exact this) (by decide))
    go_wp2_with fail
    refine (HE.out).mono ?_
    rintro e w2 ⟨rfl, hb2⟩
    have H2 := Lib.hid (H1.out.next hb2)
    clear hb2
    go_wp2
    go_ret
    exact ⟨by rw [HS.out]; rfl, H2.out.2⟩

set_option maxRecDepth 100000 in
set_option maxHeartbeats 1000000 in
theorem sencf22 (st ofs co li fl : Int) (dt : ByteArray) (fi un : Bool) (w : World) (hok : okF ⟨22, st, ofs, dt, fi, co, li, fl, un⟩) :
    Calls Tryd.prog 14 #[frV ⟨22, st, ofs, dt, fi, co, li, fl, un⟩] w fun e w' => e = .returned (.string ⟨(encF ⟨22, st, ofs, dt, fi, co, li, fl, un⟩).toArray⟩) ∧ Below w.heap.size w w' := by
  have HI := Lib.hid (sisf ⟨22, st, ofs, dt, fi, co, li, fl, un⟩)
  rw [decide_eq_true hok] at HI
  have HOK := Lib.hid hok
  have H0 := Lib.hid (HeldF.start w ⟨22, st, ofs, dt, fi, co, li, fl, un⟩)
  cases un
  case false =>
    clear hok
    go_enter Tryd.func14, Tryd.ntmps14
    go_wp2_with fail
    refine (HI.out _).mono ?_
    rintro e w1 ⟨rfl, hb1⟩
    have H1 := Lib.hid (H0.out.next hb1)
    clear hb1 HI
    obtain ⟨f0, f1, f2, f3, f4, f5, f6, f7, f8⟩ := H1.out.1.cells
    dsimp only at f0 f1 f2 f3 f4 f5 f6 f7 f8
    have HS := Lib.hid (encF_plain _ [22, li] HOK.out (show (22 : Int) ≠ 8 by decide) rfl)
    have HE := Lib.hid (senc_lit [22, li] w1 2 rfl (by have := headF_fit _ HOK.out; exact this) (by decide))
    go_wp2_with fail
    refine (HE.out).mono ?_
    rintro e w2 ⟨rfl, hb2⟩
    have H2 := Lib.hid (H1.out.next hb2)
    clear hb2
    go_wp2
    go_ret
    exact ⟨by rw [HS.out]; rfl, H2.out.2⟩
  case true =>
    clear hok
    go_enter Tryd.func14, Tryd.ntmps14
    go_wp2_with fail
    refine (HI.out _).mono ?_
    rintro e w1 ⟨rfl, hb1⟩
    have H1 := Lib.hid (H0.out.next hb1)
    clear hb1 HI
    obtain ⟨f0, f1, f2, f3, f4, f5, f6, f7, f8⟩ := H1.out.1.cells
    dsimp only at f0 f1 f2 f3 f4 f5 f6 f7 f8
    have HS := Lib.hid (encF_plain _ [23, li] HOK.out (show (22 : Int) ≠ 8 by decide) rfl)
    have HE := Lib.hid (senc_lit [23, li] w1 2 rfl (by have := headF_fit _ HOK.out; exact this) (by decide))
    go_wp2_with fail
    refine (HE.out).mono ?_
    rintro e w2 ⟨rfl, hb2⟩
    have H2 := Lib.hid (H1.out.next hb2)
    clear hb2
    go_wp2
    go_ret
    exact ⟨by rw [HS.out]; rfl, H2.out.2⟩

set_option maxRecDepth 100000 in
set_option maxHeartbeats 1000000 in
theorem sencf8z (st ofs co li fl : Int) (dt : ByteArray) (fi un : Bool) (w : World) (hok : okF ⟨8, st, ofs, dt, fi, co, li, fl, un⟩) (h0 : ofs = 0) :
    Calls Tryd.prog 14 #[frV ⟨8, st, ofs, dt, fi, co, li, fl, un⟩] w fun e w' => e = .returned (.string ⟨(encF ⟨8, st, ofs, dt, fi, co, li, fl, un⟩).toArray⟩) ∧ Below w.heap.size w w' := by
  have HI := Lib.hid (sisf ⟨8, st, ofs, dt, fi, co, li, fl, un⟩)
  rw [decide_eq_true hok] at HI
  have HOK := Lib.hid hok
  have H0 := Lib.hid (HeldF.start w ⟨8, st, ofs, dt, fi, co, li, fl, un⟩)
  subst h0
  have hsz : dt.size ≤ 400 := HOK.out.2.2.2.2.2.2.2.1
  cases fi
  case false =>
    clear hok
    go_enter Tryd.func14, Tryd.ntmps14
    go_wp2_with fail
    refine (HI.out _).mono ?_
    rintro e w1 ⟨rfl, hb1⟩
    have H1 := Lib.hid (H0.out.next hb1)
    clear hb1 HI
    obtain ⟨f0, f1, f2, f3, f4, f5, f6, f7, f8⟩ := H1.out.1.cells
    dsimp only at f0 f1 f2 f3 f4 f5 f6 f7 f8
    have HS := Lib.hid (encF_data _ [10, st, dt.size] HOK.out rfl rfl)
    have HE := Lib.hid (senc_lit [10, st, dt.size] w1.drew 3 rfl (by have := headF_fit _ HOK.out; skip; exact this) (by decide))
    go_upto_region 13 with fail
    have hsum : (encQs [10, st, dt.size]).length + dt.size ≤ 9223372036854775807 := by have := encQs_len [10, st, dt.size]; simp only [List.length_cons, List.length_nil] at this; omega
    have hadd : ∀ W : World, (Op.stringOp .add (⟨(encQs [10, st, dt.size]).toArray⟩ : ByteArray) dt).run Tryd.prog W = .ok (.string (⟨(encQs [10, st, dt.size]).toArray⟩ ++ dt)) W := fun W => run_string_add_sum W _ _ (by show (encQs _).toArray.size + dt.size ≤ _; simpa using hsum)
    have hg : w.heap.size < w1.heap.size := H1.out.1.lt
    have hS : ∀ W, Below w1.heap.size w1 W → W.cell? ⟨w.heap.size, 1, none⟩ = some (.int .i64 st) ∧ W.cell? ⟨w.heap.size, 2, none⟩ = some (.int .i64 0) ∧ W.cell? ⟨w.heap.size, 3, none⟩ = some (.string dt) := fun W h => ⟨(h.cell hg).trans f1, (h.cell hg).trans f2, (h.cell hg).trans f3⟩
    go_region_held3 (fun W => W.cell? ⟨w.heap.size, 1, none⟩ = some (.int .i64 st) ∧ W.cell? ⟨w.heap.size, 2, none⟩ = some (.int .i64 0) ∧ W.cell? ⟨w.heap.size, 3, none⟩ = some (.string dt)) (first | exact hS _ (Below.refl _ _).drew | exact hS _ ((Below.refl _ _).drew.alloc (Nat.le_refl _) _) | exact hS _ ((Below.refl _ _).drew.trans hb2)) (first | (go_at_call 51; refine (HE.out).mono ?_; rintro e w2 ⟨rfl, hb2⟩; have H2 := Lib.hid (H1.out.drew.next hb2)))
    all_goals go_wp2
    all_goals go_ret
    all_goals exact ⟨by rw [HS.out]; rfl, H2.out.2⟩
  case true =>
    clear hok
    go_enter Tryd.func14, Tryd.ntmps14
    go_wp2_with fail
    refine (HI.out _).mono ?_
    rintro e w1 ⟨rfl, hb1⟩
    have H1 := Lib.hid (H0.out.next hb1)
    clear hb1 HI
    obtain ⟨f0, f1, f2, f3, f4, f5, f6, f7, f8⟩ := H1.out.1.cells
    dsimp only at f0 f1 f2 f3 f4 f5 f6 f7 f8
    have HS := Lib.hid (encF_data _ [11, st, dt.size] HOK.out rfl rfl)
    have HE := Lib.hid (senc_lit [11, st, dt.size] w1.drew 3 rfl (by have := headF_fit _ HOK.out; skip; exact this) (by decide))
    go_upto_region 13 with fail
    have hsum : (encQs [11, st, dt.size]).length + dt.size ≤ 9223372036854775807 := by have := encQs_len [11, st, dt.size]; simp only [List.length_cons, List.length_nil] at this; omega
    have hadd : ∀ W : World, (Op.stringOp .add (⟨(encQs [11, st, dt.size]).toArray⟩ : ByteArray) dt).run Tryd.prog W = .ok (.string (⟨(encQs [11, st, dt.size]).toArray⟩ ++ dt)) W := fun W => run_string_add_sum W _ _ (by show (encQs _).toArray.size + dt.size ≤ _; simpa using hsum)
    have hg : w.heap.size < w1.heap.size := H1.out.1.lt
    have hS : ∀ W, Below w1.heap.size w1 W → W.cell? ⟨w.heap.size, 1, none⟩ = some (.int .i64 st) ∧ W.cell? ⟨w.heap.size, 2, none⟩ = some (.int .i64 0) ∧ W.cell? ⟨w.heap.size, 3, none⟩ = some (.string dt) := fun W h => ⟨(h.cell hg).trans f1, (h.cell hg).trans f2, (h.cell hg).trans f3⟩
    go_region_held3 (fun W => W.cell? ⟨w.heap.size, 1, none⟩ = some (.int .i64 st) ∧ W.cell? ⟨w.heap.size, 2, none⟩ = some (.int .i64 0) ∧ W.cell? ⟨w.heap.size, 3, none⟩ = some (.string dt)) (first | exact hS _ (Below.refl _ _).drew | exact hS _ ((Below.refl _ _).drew.alloc (Nat.le_refl _) _) | exact hS _ ((Below.refl _ _).drew.trans hb2)) (first | (go_at_call 51; refine (HE.out).mono ?_; rintro e w2 ⟨rfl, hb2⟩; have H2 := Lib.hid (H1.out.drew.next hb2)))
    all_goals go_wp2
    all_goals go_ret
    all_goals exact ⟨by rw [HS.out]; rfl, H2.out.2⟩

set_option maxRecDepth 100000 in
set_option maxHeartbeats 1000000 in
theorem sencf8 (st ofs co li fl : Int) (dt : ByteArray) (fi un : Bool) (w : World) (hok : okF ⟨8, st, ofs, dt, fi, co, li, fl, un⟩) (h0 : ofs ≠ 0) :
    Calls Tryd.prog 14 #[frV ⟨8, st, ofs, dt, fi, co, li, fl, un⟩] w fun e w' => e = .returned (.string ⟨(encF ⟨8, st, ofs, dt, fi, co, li, fl, un⟩).toArray⟩) ∧ Below w.heap.size w w' := by
  have HI := Lib.hid (sisf ⟨8, st, ofs, dt, fi, co, li, fl, un⟩)
  rw [decide_eq_true hok] at HI
  have HOK := Lib.hid hok
  have H0 := Lib.hid (HeldF.start w ⟨8, st, ofs, dt, fi, co, li, fl, un⟩)
  have hb0 : (ofs == 0) = false := by simpa using h0
  have HN0 := Lib.hid h0
  clear h0
  have hsz : dt.size ≤ 400 := HOK.out.2.2.2.2.2.2.2.1
  cases fi
  case false =>
    clear hok
    go_enter Tryd.func14, Tryd.ntmps14
    go_wp2_with fail
    refine (HI.out _).mono ?_
    rintro e w1 ⟨rfl, hb1⟩
    have H1 := Lib.hid (H0.out.next hb1)
    clear hb1 HI
    obtain ⟨f0, f1, f2, f3, f4, f5, f6, f7, f8⟩ := H1.out.1.cells
    dsimp only at f0 f1 f2 f3 f4 f5 f6 f7 f8
    have HS := Lib.hid (encF_data _ [14, st, ofs, dt.size] HOK.out rfl (by unfold headF; rw [if_neg (show ¬ (8 : Int) = 4 by decide), if_neg (show ¬ (8 : Int) = 5 by decide), if_pos rfl, if_neg HN0.out]; rfl))
    have HE := Lib.hid (senc_lit [14, st, ofs, dt.size] w1.drew 4 rfl (by have := headF_fit _ HOK.out; unfold headF at this; rw [if_neg (show ¬ (8 : Int) = 4 by decide), if_neg (show ¬ (8 : Int) = 5 by decide), if_pos rfl, if_neg HN0.out] at this; exact this) (by decide))
    go_upto_region 14 with fail
    have hsum : (encQs [14, st, ofs, dt.size]).length + dt.size ≤ 9223372036854775807 := by have := encQs_len [14, st, ofs, dt.size]; simp only [List.length_cons, List.length_nil] at this; omega
    have hadd : ∀ W : World, (Op.stringOp .add (⟨(encQs [14, st, ofs, dt.size]).toArray⟩ : ByteArray) dt).run Tryd.prog W = .ok (.string (⟨(encQs [14, st, ofs, dt.size]).toArray⟩ ++ dt)) W := fun W => run_string_add_sum W _ _ (by show (encQs _).toArray.size + dt.size ≤ _; simpa using hsum)
    have hg : w.heap.size < w1.heap.size := H1.out.1.lt
    have hS : ∀ W, Below w1.heap.size w1 W → W.cell? ⟨w.heap.size, 1, none⟩ = some (.int .i64 st) ∧ W.cell? ⟨w.heap.size, 2, none⟩ = some (.int .i64 ofs) ∧ W.cell? ⟨w.heap.size, 3, none⟩ = some (.string dt) := fun W h => ⟨(h.cell hg).trans f1, (h.cell hg).trans f2, (h.cell hg).trans f3⟩
    go_region_held3 (fun W => W.cell? ⟨w.heap.size, 1, none⟩ = some (.int .i64 st) ∧ W.cell? ⟨w.heap.size, 2, none⟩ = some (.int .i64 ofs) ∧ W.cell? ⟨w.heap.size, 3, none⟩ = some (.string dt)) (first | exact hS _ (Below.refl _ _).drew | exact hS _ ((Below.refl _ _).drew.alloc (Nat.le_refl _) _) | exact hS _ ((Below.refl _ _).drew.trans hb2)) (first | (go_at_call 51; refine (HE.out).mono ?_; rintro e w2 ⟨rfl, hb2⟩; have H2 := Lib.hid (H1.out.drew.next hb2)))
    all_goals go_wp2
    all_goals go_ret
    all_goals exact ⟨by rw [HS.out]; rfl, H2.out.2⟩
  case true =>
    clear hok
    go_enter Tryd.func14, Tryd.ntmps14
    go_wp2_with fail
    refine (HI.out _).mono ?_
    rintro e w1 ⟨rfl, hb1⟩
    have H1 := Lib.hid (H0.out.next hb1)
    clear hb1 HI
    obtain ⟨f0, f1, f2, f3, f4, f5, f6, f7, f8⟩ := H1.out.1.cells
    dsimp only at f0 f1 f2 f3 f4 f5 f6 f7 f8
    have HS := Lib.hid (encF_data _ [15, st, ofs, dt.size] HOK.out rfl (by unfold headF; rw [if_neg (show ¬ (8 : Int) = 4 by decide), if_neg (show ¬ (8 : Int) = 5 by decide), if_pos rfl, if_neg HN0.out]; rfl))
    have HE := Lib.hid (senc_lit [15, st, ofs, dt.size] w1.drew 4 rfl (by have := headF_fit _ HOK.out; unfold headF at this; rw [if_neg (show ¬ (8 : Int) = 4 by decide), if_neg (show ¬ (8 : Int) = 5 by decide), if_pos rfl, if_neg HN0.out] at this; exact this) (by decide))
    go_upto_region 14 with fail
    have hsum : (encQs [15, st, ofs, dt.size]).length + dt.size ≤ 9223372036854775807 := by have := encQs_len [15, st, ofs, dt.size]; simp only [List.length_cons, List.length_nil] at this; omega
    have hadd : ∀ W : World, (Op.stringOp .add (⟨(encQs [15, st, ofs, dt.size]).toArray⟩ : ByteArray) dt).run Tryd.prog W = .ok (.string (⟨(encQs [15, st, ofs, dt.size]).toArray⟩ ++ dt)) W := fun W => run_string_add_sum W _ _ (by show (encQs _).toArray.size + dt.size ≤ _; simpa using hsum)
    have hg : w.heap.size < w1.heap.size := H1.out.1.lt
    have hS : ∀ W, Below w1.heap.size w1 W → W.cell? ⟨w.heap.size, 1, none⟩ = some (.int .i64 st) ∧ W.cell? ⟨w.heap.size, 2, none⟩ = some (.int .i64 ofs) ∧ W.cell? ⟨w.heap.size, 3, none⟩ = some (.string dt) := fun W h => ⟨(h.cell hg).trans f1, (h.cell hg).trans f2, (h.cell hg).trans f3⟩
    go_region_held3 (fun W => W.cell? ⟨w.heap.size, 1, none⟩ = some (.int .i64 st) ∧ W.cell? ⟨w.heap.size, 2, none⟩ = some (.int .i64 ofs) ∧ W.cell? ⟨w.heap.size, 3, none⟩ = some (.string dt)) (first | exact hS _ (Below.refl _ _).drew | exact hS _ ((Below.refl _ _).drew.alloc (Nat.le_refl _) _) | exact hS _ ((Below.refl _ _).drew.trans hb2)) (first | (go_at_call 51; refine (HE.out).mono ?_; rintro e w2 ⟨rfl, hb2⟩; have H2 := Lib.hid (H1.out.drew.next hb2)))
    all_goals go_wp2
    all_goals go_ret
    all_goals exact ⟨by rw [HS.out]; rfl, H2.out.2⟩

set_option maxRecDepth 100000 in
theorem sencf_no (f : Fr) (w : World) (hok : ¬ okF f) :
    Calls Tryd.prog 14 #[frV f] w fun e w' => e = .returned (.string ⟨(encF f).toArray⟩) ∧ Below w.heap.size w w' := by
  have HI := Lib.hid (sisf f)
  rw [decide_eq_false hok] at HI
  rw [encF_no f hok]
  clear hok
  go_enter Tryd.func14, Tryd.ntmps14
  go_wp2_with fail
  refine (HI.out _).mono ?_
  rintro e w1 ⟨rfl, hb1⟩
  have H1 := Lib.hid ((HeldF.start w f).next hb1)
  clear hb1 HI
  go_wp2
  go_ret
  exact ⟨rfl, H1.out.2⟩
/-- spec.EncodeFrame -/
theorem sencf (f : Fr) (w : World) :
    Calls Tryd.prog 14 #[frV f] w fun e w' => e = .returned (.string ⟨(encF f).toArray⟩) ∧ Below w.heap.size w w' := by
  by_cases hok : okF f
  · have hk := hok.1
    obtain ⟨k, st, ofs, dt, fi, co, li, fl, un⟩ := f
    rcases (show isK k from hk) with rfl | rfl | rfl | rfl | rfl | rfl | rfl | rfl | rfl
    · exact sencf4 st ofs co li fl dt fi un w hok
    · exact sencf5 st ofs co li fl dt fi un w hok
    · by_cases h0 : ofs = 0
      · exact sencf8z st ofs co li fl dt fi un w hok h0
      · exact sencf8 st ofs co li fl dt fi un w hok h0
    · exact sencf16 st ofs co li fl dt fi un w hok
    · exact sencf17 st ofs co li fl dt fi un w hok
    · exact sencf18 st ofs co li fl dt fi un w hok
    · exact sencf20 st ofs co li fl dt fi un w hok
    · exact sencf21 st ofs co li fl dt fi un w hok
    · exact sencf22 st ofs co li fl dt fi un w hok
  · exact sencf_no f w hok
/-- spec.FrameSize -/
theorem sfsize (f : Fr) (w : World) :
    Calls Tryd.prog 34 #[frV f] w fun e w' => e = .returned (.int .i64 (encF f).length) ∧ Below w.heap.size w w' := by
  have HE := Lib.hid (sencf f)
  have H0 := Lib.hid (HeldF.start w f)
  go_enter Tryd.func34, Tryd.ntmps34
  go_wp2_with fail
  refine (HE.out _).mono ?_
  rintro e w1 ⟨rfl, hb1⟩
  have H1 := Lib.hid (H0.out.next hb1)
  clear hb1
  go_wp2
  go_ret
  exact ⟨rfl, H1.out.2⟩
end Go.Proofs.YtjbppociogoopaaDoor
