/-
  What spec.l4Used returns: the fields that a frame's kind uses.
-/
import Derived.Test.YtjbppociogoopaaDoorSFr1
import Derived.Deep.DeepCutAuto
import Derived.Deep.CutBlock
namespace Go.Proofs.YtjbppociogoopaaDoor
open Go.RowKit Go.Deep Go.Proofs.YtjbppociogoopaaDoor.Num
theorem usedF_other (k st ofs co li fl : Int) (dt : ByteArray) (fi un : Bool) (hk : k ≠ 4 ∧ k ≠ 5 ∧ k ≠ 8 ∧ k ≠ 17 ∧ k ≠ 21 ∧ k ≠ 18 ∧ k ≠ 22) : usedF ⟨k, st, ofs, dt, fi, co, li, fl, un⟩ = ⟨k, 0, 0, ⟨#[]⟩, false, 0, li, 0, false⟩ := by
  obtain ⟨h1, h2, h3, h4, h5, h6, h7⟩ := hk
  simp [usedF, aboutK, *]

set_option maxRecDepth 100000 in
set_option maxHeartbeats 1000000 in
theorem sused4 (st ofs co li fl : Int) (dt : ByteArray) (fi un : Bool) (w : World) :
    Calls Tryd.prog 53 #[frV ⟨4, st, ofs, dt, fi, co, li, fl, un⟩] w fun e w' => e = .returned (frV (usedF ⟨4, st, ofs, dt, fi, co, li, fl, un⟩)) ∧ Below w.heap.size w w' := by
  have HB := Lib.hid (sabout ⟨4, st, ofs, dt, fi, co, li, fl, un⟩)
  rw [decide_eq_true (show aboutK 4 by decide)] at HB
  go_enter Tryd.func53, Tryd.ntmps53
  go_wp2_with fail
  refine (HB.out _).mono ?_
  rintro e w0 ⟨rfl, hb⟩
  have F0 : Hid (BoxF w0 w.heap.size ⟨4, st, ofs, dt, fi, co, li, fl, un⟩) := Lib.hid ((((BoxF.new w _).alloc _).alloc _).below hb (by simp; omega))
  have R0 : Hid (BoxF w0 (w.heap.size + 1) fr0) := Lib.hid (BoxF.below (BoxF.alloc (BoxF.at _ fr0 _ (by simp)) _) hb (by simp))
  have X0 : Hid (BoxF w0 (w.heap.size + 1 + 1) ⟨4, 0, 0, ⟨#[]⟩, false, 0, 0, 0, false⟩) := Lib.hid (BoxF.below (BoxF.at _ ⟨4, 0, 0, ⟨#[]⟩, false, 0, 0, 0, false⟩ _ (by simp)) hb (by simp))
  have B0 : Hid (Below w.heap.size w w0) := Lib.hid ((((Below.refl _ _).alloc (Nat.le_refl _) _).alloc (by simp) _).alloc (by simp; omega) _ |>.trans (hb.mono (by simp; omega)))
  clear hb HB
  have hne1 : w.heap.size + 1 + 1 ≠ w.heap.size := by omega
  have hne2 : w.heap.size + 1 + 1 ≠ w.heap.size + 1 := by omega
  have hne3 : w.heap.size + 1 ≠ w.heap.size := by omega
  have hl1 : w.heap.size ≤ w.heap.size + 1 := by omega
  have hl2 : w.heap.size ≤ w.heap.size + 1 + 1 := by omega
  generalize w.heap.size + 1 + 1 = g2 at *
  generalize w.heap.size + 1 = g1 at *
  generalize hg0 : w.heap.size = g0 at *
  have HG := Lib.hid hg0
  clear hg0
  obtain ⟨f0, f1, f2, f3, f4, f5, f6, f7, f8⟩ := F0.out.cells
  obtain ⟨x0, x1, x2, x3, x4, x5, x6, x7, x8⟩ := X0.out.cells
  have fz := X0.out.free
  dsimp only at f0 f1 f2 f3 f4 f5 f6 f7 f8 x0 x1 x2 x3 x4 x5 x6 x7 x8
  go_upto_region 4 with fail
  have F1 : Hid (BoxF (w0.setCell ⟨g2, 1, none⟩ (.int .i64 st)) g0 ⟨4, st, ofs, dt, fi, co, li, fl, un⟩) := Lib.hid (F0.out.other hne1 1 _)
  have R1 : Hid (BoxF (w0.setCell ⟨g2, 1, none⟩ (.int .i64 st)) g1 fr0) := Lib.hid (R0.out.other hne2 1 _)
  have X1 : Hid (BoxF (w0.setCell ⟨g2, 1, none⟩ (.int .i64 st)) g2 ⟨4, st, 0, ⟨#[]⟩, false, 0, 0, 0, false⟩) := Lib.hid (X0.out.set1 st)
  have B1 : Hid (Below g0 w (w0.setCell ⟨g2, 1, none⟩ (.int .i64 st))) := Lib.hid (B0.out.setCell (p := ⟨g2, 1, none⟩) hl2 _)
  clear f0 f1 f2 f3 f4 f5 f6 f7 f8 x0 x1 x2 x3 x4 x5 x6 x7 x8 fz F0 R0 X0 B0
  generalize w0.setCell ⟨g2, 1, none⟩ (.int .i64 st) = w1 at *
  obtain ⟨f0, f1, f2, f3, f4, f5, f6, f7, f8⟩ := F1.out.cells
  obtain ⟨x0, x1, x2, x3, x4, x5, x6, x7, x8⟩ := X1.out.cells
  have fz := X1.out.free
  dsimp only at f0 f1 f2 f3 f4 f5 f6 f7 f8 x0 x1 x2 x3 x4 x5 x6 x7 x8
  go_upto_region 8 with fail
  have F2 : Hid (BoxF (w1.setCell ⟨g2, 5, none⟩ (.int .i64 co)) g0 ⟨4, st, ofs, dt, fi, co, li, fl, un⟩) := Lib.hid (F1.out.other hne1 5 _)
  have R2 : Hid (BoxF (w1.setCell ⟨g2, 5, none⟩ (.int .i64 co)) g1 fr0) := Lib.hid (R1.out.other hne2 5 _)
  have X2 : Hid (BoxF (w1.setCell ⟨g2, 5, none⟩ (.int .i64 co)) g2 ⟨4, st, 0, ⟨#[]⟩, false, co, 0, 0, false⟩) := Lib.hid (X1.out.set5 co)
  have B2 : Hid (Below g0 w (w1.setCell ⟨g2, 5, none⟩ (.int .i64 co))) := Lib.hid (B1.out.setCell (p := ⟨g2, 5, none⟩) hl2 _)
  clear f0 f1 f2 f3 f4 f5 f6 f7 f8 x0 x1 x2 x3 x4 x5 x6 x7 x8 fz F1 R1 X1 B1
  generalize w1.setCell ⟨g2, 5, none⟩ (.int .i64 co) = w2 at *
  obtain ⟨f0, f1, f2, f3, f4, f5, f6, f7, f8⟩ := F2.out.cells
  obtain ⟨x0, x1, x2, x3, x4, x5, x6, x7, x8⟩ := X2.out.cells
  have fz := X2.out.free
  dsimp only at f0 f1 f2 f3 f4 f5 f6 f7 f8 x0 x1 x2 x3 x4 x5 x6 x7 x8
  go_upto_region 19 with fail
  have F3 : Hid (BoxF (w2.setCell ⟨g2, 7, none⟩ (.int .i64 fl)) g0 ⟨4, st, ofs, dt, fi, co, li, fl, un⟩) := Lib.hid (F2.out.other hne1 7 _)
  have R3 : Hid (BoxF (w2.setCell ⟨g2, 7, none⟩ (.int .i64 fl)) g1 fr0) := Lib.hid (R2.out.other hne2 7 _)
  have X3 : Hid (BoxF (w2.setCell ⟨g2, 7, none⟩ (.int .i64 fl)) g2 ⟨4, st, 0, ⟨#[]⟩, false, co, 0, fl, false⟩) := Lib.hid (X2.out.set7 fl)
  have B3 : Hid (Below g0 w (w2.setCell ⟨g2, 7, none⟩ (.int .i64 fl))) := Lib.hid (B2.out.setCell (p := ⟨g2, 7, none⟩) hl2 _)
  clear f0 f1 f2 f3 f4 f5 f6 f7 f8 x0 x1 x2 x3 x4 x5 x6 x7 x8 fz F2 R2 X2 B2
  generalize w2.setCell ⟨g2, 7, none⟩ (.int .i64 fl) = w3 at *
  obtain ⟨f0, f1, f2, f3, f4, f5, f6, f7, f8⟩ := F3.out.cells
  obtain ⟨x0, x1, x2, x3, x4, x5, x6, x7, x8⟩ := X3.out.cells
  have fz := X3.out.free
  dsimp only at f0 f1 f2 f3 f4 f5 f6 f7 f8 x0 x1 x2 x3 x4 x5 x6 x7 x8
  have rz := R3.out.free
  obtain ⟨r0, r1, r2, r3, r4, r5, r6, r7, r8⟩ := R3.out.cells
  go_wp2
  refine bodyPost_ret (results_cell_row rfl _ _ g1 _ _ _ _ rfl (BoxF.set8 (BoxF.set7 (BoxF.set6 (BoxF.set5 (BoxF.set4 (BoxF.set3 (BoxF.set2 (BoxF.set1 (BoxF.set0 R3.out 4) st) 0) ⟨#[]⟩) false) co) 0) fl) false) Tryd.underlying25 rfl (by kernel_rfl)) rfl ?_
  exact ⟨rfl, by rw [HG.out]; exact (Below.setCell (Below.setCell (Below.setCell (Below.setCell (Below.setCell (Below.setCell (Below.setCell (Below.setCell (Below.setCell B3.out (p := ⟨g1, 0, none⟩) hl1 _) (p := ⟨g1, 1, none⟩) hl1 _) (p := ⟨g1, 2, none⟩) hl1 _) (p := ⟨g1, 3, none⟩) hl1 _) (p := ⟨g1, 4, none⟩) hl1 _) (p := ⟨g1, 5, none⟩) hl1 _) (p := ⟨g1, 6, none⟩) hl1 _) (p := ⟨g1, 7, none⟩) hl1 _) (p := ⟨g1, 8, none⟩) hl1 _)⟩

set_option maxRecDepth 100000 in
set_option maxHeartbeats 1000000 in
theorem sused5 (st ofs co li fl : Int) (dt : ByteArray) (fi un : Bool) (w : World) :
    Calls Tryd.prog 53 #[frV ⟨5, st, ofs, dt, fi, co, li, fl, un⟩] w fun e w' => e = .returned (frV (usedF ⟨5, st, ofs, dt, fi, co, li, fl, un⟩)) ∧ Below w.heap.size w w' := by
  have HB := Lib.hid (sabout ⟨5, st, ofs, dt, fi, co, li, fl, un⟩)
  rw [decide_eq_true (show aboutK 5 by decide)] at HB
  go_enter Tryd.func53, Tryd.ntmps53
  go_wp2_with fail
  refine (HB.out _).mono ?_
  rintro e w0 ⟨rfl, hb⟩
  have F0 : Hid (BoxF w0 w.heap.size ⟨5, st, ofs, dt, fi, co, li, fl, un⟩) := Lib.hid ((((BoxF.new w _).alloc _).alloc _).below hb (by simp; omega))
  have R0 : Hid (BoxF w0 (w.heap.size + 1) fr0) := Lib.hid (BoxF.below (BoxF.alloc (BoxF.at _ fr0 _ (by simp)) _) hb (by simp))
  have X0 : Hid (BoxF w0 (w.heap.size + 1 + 1) ⟨5, 0, 0, ⟨#[]⟩, false, 0, 0, 0, false⟩) := Lib.hid (BoxF.below (BoxF.at _ ⟨5, 0, 0, ⟨#[]⟩, false, 0, 0, 0, false⟩ _ (by simp)) hb (by simp))
  have B0 : Hid (Below w.heap.size w w0) := Lib.hid ((((Below.refl _ _).alloc (Nat.le_refl _) _).alloc (by simp) _).alloc (by simp; omega) _ |>.trans (hb.mono (by simp; omega)))
  clear hb HB
  have hne1 : w.heap.size + 1 + 1 ≠ w.heap.size := by omega
  have hne2 : w.heap.size + 1 + 1 ≠ w.heap.size + 1 := by omega
  have hne3 : w.heap.size + 1 ≠ w.heap.size := by omega
  have hl1 : w.heap.size ≤ w.heap.size + 1 := by omega
  have hl2 : w.heap.size ≤ w.heap.size + 1 + 1 := by omega
  generalize w.heap.size + 1 + 1 = g2 at *
  generalize w.heap.size + 1 = g1 at *
  generalize hg0 : w.heap.size = g0 at *
  have HG := Lib.hid hg0
  clear hg0
  obtain ⟨f0, f1, f2, f3, f4, f5, f6, f7, f8⟩ := F0.out.cells
  obtain ⟨x0, x1, x2, x3, x4, x5, x6, x7, x8⟩ := X0.out.cells
  have fz := X0.out.free
  dsimp only at f0 f1 f2 f3 f4 f5 f6 f7 f8 x0 x1 x2 x3 x4 x5 x6 x7 x8
  go_upto_region 4 with fail
  have F1 : Hid (BoxF (w0.setCell ⟨g2, 1, none⟩ (.int .i64 st)) g0 ⟨5, st, ofs, dt, fi, co, li, fl, un⟩) := Lib.hid (F0.out.other hne1 1 _)
  have R1 : Hid (BoxF (w0.setCell ⟨g2, 1, none⟩ (.int .i64 st)) g1 fr0) := Lib.hid (R0.out.other hne2 1 _)
  have X1 : Hid (BoxF (w0.setCell ⟨g2, 1, none⟩ (.int .i64 st)) g2 ⟨5, st, 0, ⟨#[]⟩, false, 0, 0, 0, false⟩) := Lib.hid (X0.out.set1 st)
  have B1 : Hid (Below g0 w (w0.setCell ⟨g2, 1, none⟩ (.int .i64 st))) := Lib.hid (B0.out.setCell (p := ⟨g2, 1, none⟩) hl2 _)
  clear f0 f1 f2 f3 f4 f5 f6 f7 f8 x0 x1 x2 x3 x4 x5 x6 x7 x8 fz F0 R0 X0 B0
  generalize w0.setCell ⟨g2, 1, none⟩ (.int .i64 st) = w1 at *
  obtain ⟨f0, f1, f2, f3, f4, f5, f6, f7, f8⟩ := F1.out.cells
  obtain ⟨x0, x1, x2, x3, x4, x5, x6, x7, x8⟩ := X1.out.cells
  have fz := X1.out.free
  dsimp only at f0 f1 f2 f3 f4 f5 f6 f7 f8 x0 x1 x2 x3 x4 x5 x6 x7 x8
  go_upto_region 19 with fail
  have F2 : Hid (BoxF (w1.setCell ⟨g2, 5, none⟩ (.int .i64 co)) g0 ⟨5, st, ofs, dt, fi, co, li, fl, un⟩) := Lib.hid (F1.out.other hne1 5 _)
  have R2 : Hid (BoxF (w1.setCell ⟨g2, 5, none⟩ (.int .i64 co)) g1 fr0) := Lib.hid (R1.out.other hne2 5 _)
  have X2 : Hid (BoxF (w1.setCell ⟨g2, 5, none⟩ (.int .i64 co)) g2 ⟨5, st, 0, ⟨#[]⟩, false, co, 0, 0, false⟩) := Lib.hid (X1.out.set5 co)
  have B2 : Hid (Below g0 w (w1.setCell ⟨g2, 5, none⟩ (.int .i64 co))) := Lib.hid (B1.out.setCell (p := ⟨g2, 5, none⟩) hl2 _)
  clear f0 f1 f2 f3 f4 f5 f6 f7 f8 x0 x1 x2 x3 x4 x5 x6 x7 x8 fz F1 R1 X1 B1
  generalize w1.setCell ⟨g2, 5, none⟩ (.int .i64 co) = w2 at *
  obtain ⟨f0, f1, f2, f3, f4, f5, f6, f7, f8⟩ := F2.out.cells
  obtain ⟨x0, x1, x2, x3, x4, x5, x6, x7, x8⟩ := X2.out.cells
  have fz := X2.out.free
  dsimp only at f0 f1 f2 f3 f4 f5 f6 f7 f8 x0 x1 x2 x3 x4 x5 x6 x7 x8
  have rz := R2.out.free
  obtain ⟨r0, r1, r2, r3, r4, r5, r6, r7, r8⟩ := R2.out.cells
  go_wp2
  refine bodyPost_ret (results_cell_row rfl _ _ g1 _ _ _ _ rfl (BoxF.set8 (BoxF.set7 (BoxF.set6 (BoxF.set5 (BoxF.set4 (BoxF.set3 (BoxF.set2 (BoxF.set1 (BoxF.set0 R2.out 5) st) 0) ⟨#[]⟩) false) co) 0) 0) false) Tryd.underlying25 rfl (by kernel_rfl)) rfl ?_
  exact ⟨rfl, by rw [HG.out]; exact (Below.setCell (Below.setCell (Below.setCell (Below.setCell (Below.setCell (Below.setCell (Below.setCell (Below.setCell (Below.setCell B2.out (p := ⟨g1, 0, none⟩) hl1 _) (p := ⟨g1, 1, none⟩) hl1 _) (p := ⟨g1, 2, none⟩) hl1 _) (p := ⟨g1, 3, none⟩) hl1 _) (p := ⟨g1, 4, none⟩) hl1 _) (p := ⟨g1, 5, none⟩) hl1 _) (p := ⟨g1, 6, none⟩) hl1 _) (p := ⟨g1, 7, none⟩) hl1 _) (p := ⟨g1, 8, none⟩) hl1 _)⟩

set_option maxRecDepth 100000 in
set_option maxHeartbeats 1000000 in
theorem sused8 (st ofs co li fl : Int) (dt : ByteArray) (fi un : Bool) (w : World) :
    Calls Tryd.prog 53 #[frV ⟨8, st, ofs, dt, fi, co, li, fl, un⟩] w fun e w' => e = .returned (frV (usedF ⟨8, st, ofs, dt, fi, co, li, fl, un⟩)) ∧ Below w.heap.size w w' := by
  have HB := Lib.hid (sabout ⟨8, st, ofs, dt, fi, co, li, fl, un⟩)
  rw [decide_eq_true (show aboutK 8 by decide)] at HB
  go_enter Tryd.func53, Tryd.ntmps53
  go_wp2_with fail
  refine (HB.out _).mono ?_
  rintro e w0 ⟨rfl, hb⟩
  have F0 : Hid (BoxF w0 w.heap.size ⟨8, st, ofs, dt, fi, co, li, fl, un⟩) := Lib.hid ((((BoxF.new w _).alloc _).alloc _).below hb (by simp; omega))
  have R0 : Hid (BoxF w0 (w.heap.size + 1) fr0) := Lib.hid (BoxF.below (BoxF.alloc (BoxF.at _ fr0 _ (by simp)) _) hb (by simp))
  have X0 : Hid (BoxF w0 (w.heap.size + 1 + 1) ⟨8, 0, 0, ⟨#[]⟩, false, 0, 0, 0, false⟩) := Lib.hid (BoxF.below (BoxF.at _ ⟨8, 0, 0, ⟨#[]⟩, false, 0, 0, 0, false⟩ _ (by simp)) hb (by simp))
  have B0 : Hid (Below w.heap.size w w0) := Lib.hid ((((Below.refl _ _).alloc (Nat.le_refl _) _).alloc (by simp) _).alloc (by simp; omega) _ |>.trans (hb.mono (by simp; omega)))
  clear hb HB
  have hne1 : w.heap.size + 1 + 1 ≠ w.heap.size := by omega
  have hne2 : w.heap.size + 1 + 1 ≠ w.heap.size + 1 := by omega
  have hne3 : w.heap.size + 1 ≠ w.heap.size := by omega
  have hl1 : w.heap.size ≤ w.heap.size + 1 := by omega
  have hl2 : w.heap.size ≤ w.heap.size + 1 + 1 := by omega
  generalize w.heap.size + 1 + 1 = g2 at *
  generalize w.heap.size + 1 = g1 at *
  generalize hg0 : w.heap.size = g0 at *
  have HG := Lib.hid hg0
  clear hg0
  obtain ⟨f0, f1, f2, f3, f4, f5, f6, f7, f8⟩ := F0.out.cells
  obtain ⟨x0, x1, x2, x3, x4, x5, x6, x7, x8⟩ := X0.out.cells
  have fz := X0.out.free
  dsimp only at f0 f1 f2 f3 f4 f5 f6 f7 f8 x0 x1 x2 x3 x4 x5 x6 x7 x8
  go_upto_region 4 with fail
  have F1 : Hid (BoxF (w0.setCell ⟨g2, 1, none⟩ (.int .i64 st)) g0 ⟨8, st, ofs, dt, fi, co, li, fl, un⟩) := Lib.hid (F0.out.other hne1 1 _)
  have R1 : Hid (BoxF (w0.setCell ⟨g2, 1, none⟩ (.int .i64 st)) g1 fr0) := Lib.hid (R0.out.other hne2 1 _)
  have X1 : Hid (BoxF (w0.setCell ⟨g2, 1, none⟩ (.int .i64 st)) g2 ⟨8, st, 0, ⟨#[]⟩, false, 0, 0, 0, false⟩) := Lib.hid (X0.out.set1 st)
  have B1 : Hid (Below g0 w (w0.setCell ⟨g2, 1, none⟩ (.int .i64 st))) := Lib.hid (B0.out.setCell (p := ⟨g2, 1, none⟩) hl2 _)
  clear f0 f1 f2 f3 f4 f5 f6 f7 f8 x0 x1 x2 x3 x4 x5 x6 x7 x8 fz F0 R0 X0 B0
  generalize w0.setCell ⟨g2, 1, none⟩ (.int .i64 st) = w1 at *
  obtain ⟨f0, f1, f2, f3, f4, f5, f6, f7, f8⟩ := F1.out.cells
  obtain ⟨x0, x1, x2, x3, x4, x5, x6, x7, x8⟩ := X1.out.cells
  have fz := X1.out.free
  dsimp only at f0 f1 f2 f3 f4 f5 f6 f7 f8 x0 x1 x2 x3 x4 x5 x6 x7 x8
  go_upto_region 13 with fail
  have F2 : Hid (BoxF (w1.setCell ⟨g2, 2, none⟩ (.int .i64 ofs)) g0 ⟨8, st, ofs, dt, fi, co, li, fl, un⟩) := Lib.hid (F1.out.other hne1 2 _)
  have R2 : Hid (BoxF (w1.setCell ⟨g2, 2, none⟩ (.int .i64 ofs)) g1 fr0) := Lib.hid (R1.out.other hne2 2 _)
  have X2 : Hid (BoxF (w1.setCell ⟨g2, 2, none⟩ (.int .i64 ofs)) g2 ⟨8, st, ofs, ⟨#[]⟩, false, 0, 0, 0, false⟩) := Lib.hid (X1.out.set2 ofs)
  have B2 : Hid (Below g0 w (w1.setCell ⟨g2, 2, none⟩ (.int .i64 ofs))) := Lib.hid (B1.out.setCell (p := ⟨g2, 2, none⟩) hl2 _)
  clear f0 f1 f2 f3 f4 f5 f6 f7 f8 x0 x1 x2 x3 x4 x5 x6 x7 x8 fz F1 R1 X1 B1
  generalize w1.setCell ⟨g2, 2, none⟩ (.int .i64 ofs) = w2 at *
  obtain ⟨f0, f1, f2, f3, f4, f5, f6, f7, f8⟩ := F2.out.cells
  obtain ⟨x0, x1, x2, x3, x4, x5, x6, x7, x8⟩ := X2.out.cells
  have fz := X2.out.free
  dsimp only at f0 f1 f2 f3 f4 f5 f6 f7 f8 x0 x1 x2 x3 x4 x5 x6 x7 x8
  go_upto_region 14 with fail
  have F3 : Hid (BoxF (w2.setCell ⟨g2, 3, none⟩ (.string dt)) g0 ⟨8, st, ofs, dt, fi, co, li, fl, un⟩) := Lib.hid (F2.out.other hne1 3 _)
  have R3 : Hid (BoxF (w2.setCell ⟨g2, 3, none⟩ (.string dt)) g1 fr0) := Lib.hid (R2.out.other hne2 3 _)
  have X3 : Hid (BoxF (w2.setCell ⟨g2, 3, none⟩ (.string dt)) g2 ⟨8, st, ofs, dt, false, 0, 0, 0, false⟩) := Lib.hid (X2.out.set3 dt)
  have B3 : Hid (Below g0 w (w2.setCell ⟨g2, 3, none⟩ (.string dt))) := Lib.hid (B2.out.setCell (p := ⟨g2, 3, none⟩) hl2 _)
  clear f0 f1 f2 f3 f4 f5 f6 f7 f8 x0 x1 x2 x3 x4 x5 x6 x7 x8 fz F2 R2 X2 B2
  generalize w2.setCell ⟨g2, 3, none⟩ (.string dt) = w3 at *
  obtain ⟨f0, f1, f2, f3, f4, f5, f6, f7, f8⟩ := F3.out.cells
  obtain ⟨x0, x1, x2, x3, x4, x5, x6, x7, x8⟩ := X3.out.cells
  have fz := X3.out.free
  dsimp only at f0 f1 f2 f3 f4 f5 f6 f7 f8 x0 x1 x2 x3 x4 x5 x6 x7 x8
  go_upto_region 19 with fail
  have F4 : Hid (BoxF (w3.setCell ⟨g2, 4, none⟩ (.bool fi)) g0 ⟨8, st, ofs, dt, fi, co, li, fl, un⟩) := Lib.hid (F3.out.other hne1 4 _)
  have R4 : Hid (BoxF (w3.setCell ⟨g2, 4, none⟩ (.bool fi)) g1 fr0) := Lib.hid (R3.out.other hne2 4 _)
  have X4 : Hid (BoxF (w3.setCell ⟨g2, 4, none⟩ (.bool fi)) g2 ⟨8, st, ofs, dt, fi, 0, 0, 0, false⟩) := Lib.hid (X3.out.set4 fi)
  have B4 : Hid (Below g0 w (w3.setCell ⟨g2, 4, none⟩ (.bool fi))) := Lib.hid (B3.out.setCell (p := ⟨g2, 4, none⟩) hl2 _)
  clear f0 f1 f2 f3 f4 f5 f6 f7 f8 x0 x1 x2 x3 x4 x5 x6 x7 x8 fz F3 R3 X3 B3
  generalize w3.setCell ⟨g2, 4, none⟩ (.bool fi) = w4 at *
  obtain ⟨f0, f1, f2, f3, f4, f5, f6, f7, f8⟩ := F4.out.cells
  obtain ⟨x0, x1, x2, x3, x4, x5, x6, x7, x8⟩ := X4.out.cells
  have fz := X4.out.free
  dsimp only at f0 f1 f2 f3 f4 f5 f6 f7 f8 x0 x1 x2 x3 x4 x5 x6 x7 x8
  have rz := R4.out.free
  obtain ⟨r0, r1, r2, r3, r4, r5, r6, r7, r8⟩ := R4.out.cells
  go_wp2
  refine bodyPost_ret (results_cell_row rfl _ _ g1 _ _ _ _ rfl (BoxF.set8 (BoxF.set7 (BoxF.set6 (BoxF.set5 (BoxF.set4 (BoxF.set3 (BoxF.set2 (BoxF.set1 (BoxF.set0 R4.out 8) st) ofs) dt) fi) 0) 0) 0) false) Tryd.underlying25 rfl (by kernel_rfl)) rfl ?_
  exact ⟨rfl, by rw [HG.out]; exact (Below.setCell (Below.setCell (Below.setCell (Below.setCell (Below.setCell (Below.setCell (Below.setCell (Below.setCell (Below.setCell B4.out (p := ⟨g1, 0, none⟩) hl1 _) (p := ⟨g1, 1, none⟩) hl1 _) (p := ⟨g1, 2, none⟩) hl1 _) (p := ⟨g1, 3, none⟩) hl1 _) (p := ⟨g1, 4, none⟩) hl1 _) (p := ⟨g1, 5, none⟩) hl1 _) (p := ⟨g1, 6, none⟩) hl1 _) (p := ⟨g1, 7, none⟩) hl1 _) (p := ⟨g1, 8, none⟩) hl1 _)⟩

set_option maxRecDepth 100000 in
set_option maxHeartbeats 1000000 in
theorem sused17 (st ofs co li fl : Int) (dt : ByteArray) (fi un : Bool) (w : World) :
    Calls Tryd.prog 53 #[frV ⟨17, st, ofs, dt, fi, co, li, fl, un⟩] w fun e w' => e = .returned (frV (usedF ⟨17, st, ofs, dt, fi, co, li, fl, un⟩)) ∧ Below w.heap.size w w' := by
  have HB := Lib.hid (sabout ⟨17, st, ofs, dt, fi, co, li, fl, un⟩)
  rw [decide_eq_true (show aboutK 17 by decide)] at HB
  go_enter Tryd.func53, Tryd.ntmps53
  go_wp2_with fail
  refine (HB.out _).mono ?_
  rintro e w0 ⟨rfl, hb⟩
  have F0 : Hid (BoxF w0 w.heap.size ⟨17, st, ofs, dt, fi, co, li, fl, un⟩) := Lib.hid ((((BoxF.new w _).alloc _).alloc _).below hb (by simp; omega))
  have R0 : Hid (BoxF w0 (w.heap.size + 1) fr0) := Lib.hid (BoxF.below (BoxF.alloc (BoxF.at _ fr0 _ (by simp)) _) hb (by simp))
  have X0 : Hid (BoxF w0 (w.heap.size + 1 + 1) ⟨17, 0, 0, ⟨#[]⟩, false, 0, 0, 0, false⟩) := Lib.hid (BoxF.below (BoxF.at _ ⟨17, 0, 0, ⟨#[]⟩, false, 0, 0, 0, false⟩ _ (by simp)) hb (by simp))
  have B0 : Hid (Below w.heap.size w w0) := Lib.hid ((((Below.refl _ _).alloc (Nat.le_refl _) _).alloc (by simp) _).alloc (by simp; omega) _ |>.trans (hb.mono (by simp; omega)))
  clear hb HB
  have hne1 : w.heap.size + 1 + 1 ≠ w.heap.size := by omega
  have hne2 : w.heap.size + 1 + 1 ≠ w.heap.size + 1 := by omega
  have hne3 : w.heap.size + 1 ≠ w.heap.size := by omega
  have hl1 : w.heap.size ≤ w.heap.size + 1 := by omega
  have hl2 : w.heap.size ≤ w.heap.size + 1 + 1 := by omega
  generalize w.heap.size + 1 + 1 = g2 at *
  generalize w.heap.size + 1 = g1 at *
  generalize hg0 : w.heap.size = g0 at *
  have HG := Lib.hid hg0
  clear hg0
  obtain ⟨f0, f1, f2, f3, f4, f5, f6, f7, f8⟩ := F0.out.cells
  obtain ⟨x0, x1, x2, x3, x4, x5, x6, x7, x8⟩ := X0.out.cells
  have fz := X0.out.free
  dsimp only at f0 f1 f2 f3 f4 f5 f6 f7 f8 x0 x1 x2 x3 x4 x5 x6 x7 x8
  go_upto_region 4 with fail
  have F1 : Hid (BoxF (w0.setCell ⟨g2, 1, none⟩ (.int .i64 st)) g0 ⟨17, st, ofs, dt, fi, co, li, fl, un⟩) := Lib.hid (F0.out.other hne1 1 _)
  have R1 : Hid (BoxF (w0.setCell ⟨g2, 1, none⟩ (.int .i64 st)) g1 fr0) := Lib.hid (R0.out.other hne2 1 _)
  have X1 : Hid (BoxF (w0.setCell ⟨g2, 1, none⟩ (.int .i64 st)) g2 ⟨17, st, 0, ⟨#[]⟩, false, 0, 0, 0, false⟩) := Lib.hid (X0.out.set1 st)
  have B1 : Hid (Below g0 w (w0.setCell ⟨g2, 1, none⟩ (.int .i64 st))) := Lib.hid (B0.out.setCell (p := ⟨g2, 1, none⟩) hl2 _)
  clear f0 f1 f2 f3 f4 f5 f6 f7 f8 x0 x1 x2 x3 x4 x5 x6 x7 x8 fz F0 R0 X0 B0
  generalize w0.setCell ⟨g2, 1, none⟩ (.int .i64 st) = w1 at *
  obtain ⟨f0, f1, f2, f3, f4, f5, f6, f7, f8⟩ := F1.out.cells
  obtain ⟨x0, x1, x2, x3, x4, x5, x6, x7, x8⟩ := X1.out.cells
  have fz := X1.out.free
  dsimp only at f0 f1 f2 f3 f4 f5 f6 f7 f8 x0 x1 x2 x3 x4 x5 x6 x7 x8
  go_upto_region 19 with fail
  have F2 : Hid (BoxF (w1.setCell ⟨g2, 6, none⟩ (.int .i64 li)) g0 ⟨17, st, ofs, dt, fi, co, li, fl, un⟩) := Lib.hid (F1.out.other hne1 6 _)
  have R2 : Hid (BoxF (w1.setCell ⟨g2, 6, none⟩ (.int .i64 li)) g1 fr0) := Lib.hid (R1.out.other hne2 6 _)
  have X2 : Hid (BoxF (w1.setCell ⟨g2, 6, none⟩ (.int .i64 li)) g2 ⟨17, st, 0, ⟨#[]⟩, false, 0, li, 0, false⟩) := Lib.hid (X1.out.set6 li)
  have B2 : Hid (Below g0 w (w1.setCell ⟨g2, 6, none⟩ (.int .i64 li))) := Lib.hid (B1.out.setCell (p := ⟨g2, 6, none⟩) hl2 _)
  clear f0 f1 f2 f3 f4 f5 f6 f7 f8 x0 x1 x2 x3 x4 x5 x6 x7 x8 fz F1 R1 X1 B1
  generalize w1.setCell ⟨g2, 6, none⟩ (.int .i64 li) = w2 at *
  obtain ⟨f0, f1, f2, f3, f4, f5, f6, f7, f8⟩ := F2.out.cells
  obtain ⟨x0, x1, x2, x3, x4, x5, x6, x7, x8⟩ := X2.out.cells
  have fz := X2.out.free
  dsimp only at f0 f1 f2 f3 f4 f5 f6 f7 f8 x0 x1 x2 x3 x4 x5 x6 x7 x8
  have rz := R2.out.free
  obtain ⟨r0, r1, r2, r3, r4, r5, r6, r7, r8⟩ := R2.out.cells
  go_wp2
  refine bodyPost_ret (results_cell_row rfl _ _ g1 _ _ _ _ rfl (BoxF.set8 (BoxF.set7 (BoxF.set6 (BoxF.set5 (BoxF.set4 (BoxF.set3 (BoxF.set2 (BoxF.set1 (BoxF.set0 R2.out 17) st) 0) ⟨#[]⟩) false) 0) li) 0) false) Tryd.underlying25 rfl (by kernel_rfl)) rfl ?_
  exact ⟨rfl, by rw [HG.out]; exact (Below.setCell (Below.setCell (Below.setCell (Below.setCell (Below.setCell (Below.setCell (Below.setCell (Below.setCell (Below.setCell B2.out (p := ⟨g1, 0, none⟩) hl1 _) (p := ⟨g1, 1, none⟩) hl1 _) (p := ⟨g1, 2, none⟩) hl1 _) (p := ⟨g1, 3, none⟩) hl1 _) (p := ⟨g1, 4, none⟩) hl1 _) (p := ⟨g1, 5, none⟩) hl1 _) (p := ⟨g1, 6, none⟩) hl1 _) (p := ⟨g1, 7, none⟩) hl1 _) (p := ⟨g1, 8, none⟩) hl1 _)⟩

set_option maxRecDepth 100000 in
set_option maxHeartbeats 1000000 in
theorem sused21 (st ofs co li fl : Int) (dt : ByteArray) (fi un : Bool) (w : World) :
    Calls Tryd.prog 53 #[frV ⟨21, st, ofs, dt, fi, co, li, fl, un⟩] w fun e w' => e = .returned (frV (usedF ⟨21, st, ofs, dt, fi, co, li, fl, un⟩)) ∧ Below w.heap.size w w' := by
  have HB := Lib.hid (sabout ⟨21, st, ofs, dt, fi, co, li, fl, un⟩)
  rw [decide_eq_true (show aboutK 21 by decide)] at HB
  go_enter Tryd.func53, Tryd.ntmps53
  go_wp2_with fail
  refine (HB.out _).mono ?_
  rintro e w0 ⟨rfl, hb⟩
  have F0 : Hid (BoxF w0 w.heap.size ⟨21, st, ofs, dt, fi, co, li, fl, un⟩) := Lib.hid ((((BoxF.new w _).alloc _).alloc _).below hb (by simp; omega))
  have R0 : Hid (BoxF w0 (w.heap.size + 1) fr0) := Lib.hid (BoxF.below (BoxF.alloc (BoxF.at _ fr0 _ (by simp)) _) hb (by simp))
  have X0 : Hid (BoxF w0 (w.heap.size + 1 + 1) ⟨21, 0, 0, ⟨#[]⟩, false, 0, 0, 0, false⟩) := Lib.hid (BoxF.below (BoxF.at _ ⟨21, 0, 0, ⟨#[]⟩, false, 0, 0, 0, false⟩ _ (by simp)) hb (by simp))
  have B0 : Hid (Below w.heap.size w w0) := Lib.hid ((((Below.refl _ _).alloc (Nat.le_refl _) _).alloc (by simp) _).alloc (by simp; omega) _ |>.trans (hb.mono (by simp; omega)))
  clear hb HB
  have hne1 : w.heap.size + 1 + 1 ≠ w.heap.size := by omega
  have hne2 : w.heap.size + 1 + 1 ≠ w.heap.size + 1 := by omega
  have hne3 : w.heap.size + 1 ≠ w.heap.size := by omega
  have hl1 : w.heap.size ≤ w.heap.size + 1 := by omega
  have hl2 : w.heap.size ≤ w.heap.size + 1 + 1 := by omega
  generalize w.heap.size + 1 + 1 = g2 at *
  generalize w.heap.size + 1 = g1 at *
  generalize hg0 : w.heap.size = g0 at *
  have HG := Lib.hid hg0
  clear hg0
  obtain ⟨f0, f1, f2, f3, f4, f5, f6, f7, f8⟩ := F0.out.cells
  obtain ⟨x0, x1, x2, x3, x4, x5, x6, x7, x8⟩ := X0.out.cells
  have fz := X0.out.free
  dsimp only at f0 f1 f2 f3 f4 f5 f6 f7 f8 x0 x1 x2 x3 x4 x5 x6 x7 x8
  go_upto_region 4 with fail
  have F1 : Hid (BoxF (w0.setCell ⟨g2, 1, none⟩ (.int .i64 st)) g0 ⟨21, st, ofs, dt, fi, co, li, fl, un⟩) := Lib.hid (F0.out.other hne1 1 _)
  have R1 : Hid (BoxF (w0.setCell ⟨g2, 1, none⟩ (.int .i64 st)) g1 fr0) := Lib.hid (R0.out.other hne2 1 _)
  have X1 : Hid (BoxF (w0.setCell ⟨g2, 1, none⟩ (.int .i64 st)) g2 ⟨21, st, 0, ⟨#[]⟩, false, 0, 0, 0, false⟩) := Lib.hid (X0.out.set1 st)
  have B1 : Hid (Below g0 w (w0.setCell ⟨g2, 1, none⟩ (.int .i64 st))) := Lib.hid (B0.out.setCell (p := ⟨g2, 1, none⟩) hl2 _)
  clear f0 f1 f2 f3 f4 f5 f6 f7 f8 x0 x1 x2 x3 x4 x5 x6 x7 x8 fz F0 R0 X0 B0
  generalize w0.setCell ⟨g2, 1, none⟩ (.int .i64 st) = w1 at *
  obtain ⟨f0, f1, f2, f3, f4, f5, f6, f7, f8⟩ := F1.out.cells
  obtain ⟨x0, x1, x2, x3, x4, x5, x6, x7, x8⟩ := X1.out.cells
  have fz := X1.out.free
  dsimp only at f0 f1 f2 f3 f4 f5 f6 f7 f8 x0 x1 x2 x3 x4 x5 x6 x7 x8
  go_upto_region 19 with fail
  have F2 : Hid (BoxF (w1.setCell ⟨g2, 6, none⟩ (.int .i64 li)) g0 ⟨21, st, ofs, dt, fi, co, li, fl, un⟩) := Lib.hid (F1.out.other hne1 6 _)
  have R2 : Hid (BoxF (w1.setCell ⟨g2, 6, none⟩ (.int .i64 li)) g1 fr0) := Lib.hid (R1.out.other hne2 6 _)
  have X2 : Hid (BoxF (w1.setCell ⟨g2, 6, none⟩ (.int .i64 li)) g2 ⟨21, st, 0, ⟨#[]⟩, false, 0, li, 0, false⟩) := Lib.hid (X1.out.set6 li)
  have B2 : Hid (Below g0 w (w1.setCell ⟨g2, 6, none⟩ (.int .i64 li))) := Lib.hid (B1.out.setCell (p := ⟨g2, 6, none⟩) hl2 _)
  clear f0 f1 f2 f3 f4 f5 f6 f7 f8 x0 x1 x2 x3 x4 x5 x6 x7 x8 fz F1 R1 X1 B1
  generalize w1.setCell ⟨g2, 6, none⟩ (.int .i64 li) = w2 at *
  obtain ⟨f0, f1, f2, f3, f4, f5, f6, f7, f8⟩ := F2.out.cells
  obtain ⟨x0, x1, x2, x3, x4, x5, x6, x7, x8⟩ := X2.out.cells
  have fz := X2.out.free
  dsimp only at f0 f1 f2 f3 f4 f5 f6 f7 f8 x0 x1 x2 x3 x4 x5 x6 x7 x8
  have rz := R2.out.free
  obtain ⟨r0, r1, r2, r3, r4, r5, r6, r7, r8⟩ := R2.out.cells
  go_wp2
  refine bodyPost_ret (results_cell_row rfl _ _ g1 _ _ _ _ rfl (BoxF.set8 (BoxF.set7 (BoxF.set6 (BoxF.set5 (BoxF.set4 (BoxF.set3 (BoxF.set2 (BoxF.set1 (BoxF.set0 R2.out 21) st) 0) ⟨#[]⟩) false) 0) li) 0) false) Tryd.underlying25 rfl (by kernel_rfl)) rfl ?_
  exact ⟨rfl, by rw [HG.out]; exact (Below.setCell (Below.setCell (Below.setCell (Below.setCell (Below.setCell (Below.setCell (Below.setCell (Below.setCell (Below.setCell B2.out (p := ⟨g1, 0, none⟩) hl1 _) (p := ⟨g1, 1, none⟩) hl1 _) (p := ⟨g1, 2, none⟩) hl1 _) (p := ⟨g1, 3, none⟩) hl1 _) (p := ⟨g1, 4, none⟩) hl1 _) (p := ⟨g1, 5, none⟩) hl1 _) (p := ⟨g1, 6, none⟩) hl1 _) (p := ⟨g1, 7, none⟩) hl1 _) (p := ⟨g1, 8, none⟩) hl1 _)⟩

set_option maxRecDepth 100000 in
set_option maxHeartbeats 1000000 in
theorem sused18 (st ofs co li fl : Int) (dt : ByteArray) (fi un : Bool) (w : World) :
    Calls Tryd.prog 53 #[frV ⟨18, st, ofs, dt, fi, co, li, fl, un⟩] w fun e w' => e = .returned (frV (usedF ⟨18, st, ofs, dt, fi, co, li, fl, un⟩)) ∧ Below w.heap.size w w' := by
  have HB := Lib.hid (sabout ⟨18, st, ofs, dt, fi, co, li, fl, un⟩)
  rw [decide_eq_false (show ¬ aboutK 18 by decide)] at HB
  go_enter Tryd.func53, Tryd.ntmps53
  go_wp2_with fail
  refine (HB.out _).mono ?_
  rintro e w0 ⟨rfl, hb⟩
  have F0 : Hid (BoxF w0 w.heap.size ⟨18, st, ofs, dt, fi, co, li, fl, un⟩) := Lib.hid ((((BoxF.new w _).alloc _).alloc _).below hb (by simp; omega))
  have R0 : Hid (BoxF w0 (w.heap.size + 1) fr0) := Lib.hid (BoxF.below (BoxF.alloc (BoxF.at _ fr0 _ (by simp)) _) hb (by simp))
  have X0 : Hid (BoxF w0 (w.heap.size + 1 + 1) ⟨18, 0, 0, ⟨#[]⟩, false, 0, 0, 0, false⟩) := Lib.hid (BoxF.below (BoxF.at _ ⟨18, 0, 0, ⟨#[]⟩, false, 0, 0, 0, false⟩ _ (by simp)) hb (by simp))
  have B0 : Hid (Below w.heap.size w w0) := Lib.hid ((((Below.refl _ _).alloc (Nat.le_refl _) _).alloc (by simp) _).alloc (by simp; omega) _ |>.trans (hb.mono (by simp; omega)))
  clear hb HB
  have hne1 : w.heap.size + 1 + 1 ≠ w.heap.size := by omega
  have hne2 : w.heap.size + 1 + 1 ≠ w.heap.size + 1 := by omega
  have hne3 : w.heap.size + 1 ≠ w.heap.size := by omega
  have hl1 : w.heap.size ≤ w.heap.size + 1 := by omega
  have hl2 : w.heap.size ≤ w.heap.size + 1 + 1 := by omega
  generalize w.heap.size + 1 + 1 = g2 at *
  generalize w.heap.size + 1 = g1 at *
  generalize hg0 : w.heap.size = g0 at *
  have HG := Lib.hid hg0
  clear hg0
  obtain ⟨f0, f1, f2, f3, f4, f5, f6, f7, f8⟩ := F0.out.cells
  obtain ⟨x0, x1, x2, x3, x4, x5, x6, x7, x8⟩ := X0.out.cells
  have fz := X0.out.free
  dsimp only at f0 f1 f2 f3 f4 f5 f6 f7 f8 x0 x1 x2 x3 x4 x5 x6 x7 x8
  go_upto_region 18 with fail
  have F1 : Hid (BoxF (w0.setCell ⟨g2, 6, none⟩ (.int .i64 li)) g0 ⟨18, st, ofs, dt, fi, co, li, fl, un⟩) := Lib.hid (F0.out.other hne1 6 _)
  have R1 : Hid (BoxF (w0.setCell ⟨g2, 6, none⟩ (.int .i64 li)) g1 fr0) := Lib.hid (R0.out.other hne2 6 _)
  have X1 : Hid (BoxF (w0.setCell ⟨g2, 6, none⟩ (.int .i64 li)) g2 ⟨18, 0, 0, ⟨#[]⟩, false, 0, li, 0, false⟩) := Lib.hid (X0.out.set6 li)
  have B1 : Hid (Below g0 w (w0.setCell ⟨g2, 6, none⟩ (.int .i64 li))) := Lib.hid (B0.out.setCell (p := ⟨g2, 6, none⟩) hl2 _)
  clear f0 f1 f2 f3 f4 f5 f6 f7 f8 x0 x1 x2 x3 x4 x5 x6 x7 x8 fz F0 R0 X0 B0
  generalize w0.setCell ⟨g2, 6, none⟩ (.int .i64 li) = w1 at *
  obtain ⟨f0, f1, f2, f3, f4, f5, f6, f7, f8⟩ := F1.out.cells
  obtain ⟨x0, x1, x2, x3, x4, x5, x6, x7, x8⟩ := X1.out.cells
  have fz := X1.out.free
  dsimp only at f0 f1 f2 f3 f4 f5 f6 f7 f8 x0 x1 x2 x3 x4 x5 x6 x7 x8
  go_upto_region 19 with fail
  have F2 : Hid (BoxF (w1.setCell ⟨g2, 8, none⟩ (.bool un)) g0 ⟨18, st, ofs, dt, fi, co, li, fl, un⟩) := Lib.hid (F1.out.other hne1 8 _)
  have R2 : Hid (BoxF (w1.setCell ⟨g2, 8, none⟩ (.bool un)) g1 fr0) := Lib.hid (R1.out.other hne2 8 _)
  have X2 : Hid (BoxF (w1.setCell ⟨g2, 8, none⟩ (.bool un)) g2 ⟨18, 0, 0, ⟨#[]⟩, false, 0, li, 0, un⟩) := Lib.hid (X1.out.set8 un)
  have B2 : Hid (Below g0 w (w1.setCell ⟨g2, 8, none⟩ (.bool un))) := Lib.hid (B1.out.setCell (p := ⟨g2, 8, none⟩) hl2 _)
  clear f0 f1 f2 f3 f4 f5 f6 f7 f8 x0 x1 x2 x3 x4 x5 x6 x7 x8 fz F1 R1 X1 B1
  generalize w1.setCell ⟨g2, 8, none⟩ (.bool un) = w2 at *
  obtain ⟨f0, f1, f2, f3, f4, f5, f6, f7, f8⟩ := F2.out.cells
  obtain ⟨x0, x1, x2, x3, x4, x5, x6, x7, x8⟩ := X2.out.cells
  have fz := X2.out.free
  dsimp only at f0 f1 f2 f3 f4 f5 f6 f7 f8 x0 x1 x2 x3 x4 x5 x6 x7 x8
  have rz := R2.out.free
  obtain ⟨r0, r1, r2, r3, r4, r5, r6, r7, r8⟩ := R2.out.cells
  go_wp2
  refine bodyPost_ret (results_cell_row rfl _ _ g1 _ _ _ _ rfl (BoxF.set8 (BoxF.set7 (BoxF.set6 (BoxF.set5 (BoxF.set4 (BoxF.set3 (BoxF.set2 (BoxF.set1 (BoxF.set0 R2.out 18) 0) 0) ⟨#[]⟩) false) 0) li) 0) un) Tryd.underlying25 rfl (by kernel_rfl)) rfl ?_
  exact ⟨rfl, by rw [HG.out]; exact (Below.setCell (Below.setCell (Below.setCell (Below.setCell (Below.setCell (Below.setCell (Below.setCell (Below.setCell (Below.setCell B2.out (p := ⟨g1, 0, none⟩) hl1 _) (p := ⟨g1, 1, none⟩) hl1 _) (p := ⟨g1, 2, none⟩) hl1 _) (p := ⟨g1, 3, none⟩) hl1 _) (p := ⟨g1, 4, none⟩) hl1 _) (p := ⟨g1, 5, none⟩) hl1 _) (p := ⟨g1, 6, none⟩) hl1 _) (p := ⟨g1, 7, none⟩) hl1 _) (p := ⟨g1, 8, none⟩) hl1 _)⟩

set_option maxRecDepth 100000 in
set_option maxHeartbeats 1000000 in
theorem sused22 (st ofs co li fl : Int) (dt : ByteArray) (fi un : Bool) (w : World) :
    Calls Tryd.prog 53 #[frV ⟨22, st, ofs, dt, fi, co, li, fl, un⟩] w fun e w' => e = .returned (frV (usedF ⟨22, st, ofs, dt, fi, co, li, fl, un⟩)) ∧ Below w.heap.size w w' := by
  have HB := Lib.hid (sabout ⟨22, st, ofs, dt, fi, co, li, fl, un⟩)
  rw [decide_eq_false (show ¬ aboutK 22 by decide)] at HB
  go_enter Tryd.func53, Tryd.ntmps53
  go_wp2_with fail
  refine (HB.out _).mono ?_
  rintro e w0 ⟨rfl, hb⟩
  have F0 : Hid (BoxF w0 w.heap.size ⟨22, st, ofs, dt, fi, co, li, fl, un⟩) := Lib.hid ((((BoxF.new w _).alloc _).alloc _).below hb (by simp; omega))
  have R0 : Hid (BoxF w0 (w.heap.size + 1) fr0) := Lib.hid (BoxF.below (BoxF.alloc (BoxF.at _ fr0 _ (by simp)) _) hb (by simp))
  have X0 : Hid (BoxF w0 (w.heap.size + 1 + 1) ⟨22, 0, 0, ⟨#[]⟩, false, 0, 0, 0, false⟩) := Lib.hid (BoxF.below (BoxF.at _ ⟨22, 0, 0, ⟨#[]⟩, false, 0, 0, 0, false⟩ _ (by simp)) hb (by simp))
  have B0 : Hid (Below w.heap.size w w0) := Lib.hid ((((Below.refl _ _).alloc (Nat.le_refl _) _).alloc (by simp) _).alloc (by simp; omega) _ |>.trans (hb.mono (by simp; omega)))
  clear hb HB
  have hne1 : w.heap.size + 1 + 1 ≠ w.heap.size := by omega
  have hne2 : w.heap.size + 1 + 1 ≠ w.heap.size + 1 := by omega
  have hne3 : w.heap.size + 1 ≠ w.heap.size := by omega
  have hl1 : w.heap.size ≤ w.heap.size + 1 := by omega
  have hl2 : w.heap.size ≤ w.heap.size + 1 + 1 := by omega
  generalize w.heap.size + 1 + 1 = g2 at *
  generalize w.heap.size + 1 = g1 at *
  generalize hg0 : w.heap.size = g0 at *
  have HG := Lib.hid hg0
  clear hg0
  obtain ⟨f0, f1, f2, f3, f4, f5, f6, f7, f8⟩ := F0.out.cells
  obtain ⟨x0, x1, x2, x3, x4, x5, x6, x7, x8⟩ := X0.out.cells
  have fz := X0.out.free
  dsimp only at f0 f1 f2 f3 f4 f5 f6 f7 f8 x0 x1 x2 x3 x4 x5 x6 x7 x8
  go_upto_region 18 with fail
  have F1 : Hid (BoxF (w0.setCell ⟨g2, 6, none⟩ (.int .i64 li)) g0 ⟨22, st, ofs, dt, fi, co, li, fl, un⟩) := Lib.hid (F0.out.other hne1 6 _)
  have R1 : Hid (BoxF (w0.setCell ⟨g2, 6, none⟩ (.int .i64 li)) g1 fr0) := Lib.hid (R0.out.other hne2 6 _)
  have X1 : Hid (BoxF (w0.setCell ⟨g2, 6, none⟩ (.int .i64 li)) g2 ⟨22, 0, 0, ⟨#[]⟩, false, 0, li, 0, false⟩) := Lib.hid (X0.out.set6 li)
  have B1 : Hid (Below g0 w (w0.setCell ⟨g2, 6, none⟩ (.int .i64 li))) := Lib.hid (B0.out.setCell (p := ⟨g2, 6, none⟩) hl2 _)
  clear f0 f1 f2 f3 f4 f5 f6 f7 f8 x0 x1 x2 x3 x4 x5 x6 x7 x8 fz F0 R0 X0 B0
  generalize w0.setCell ⟨g2, 6, none⟩ (.int .i64 li) = w1 at *
  obtain ⟨f0, f1, f2, f3, f4, f5, f6, f7, f8⟩ := F1.out.cells
  obtain ⟨x0, x1, x2, x3, x4, x5, x6, x7, x8⟩ := X1.out.cells
  have fz := X1.out.free
  dsimp only at f0 f1 f2 f3 f4 f5 f6 f7 f8 x0 x1 x2 x3 x4 x5 x6 x7 x8
  go_upto_region 19 with fail
  have F2 : Hid (BoxF (w1.setCell ⟨g2, 8, none⟩ (.bool un)) g0 ⟨22, st, ofs, dt, fi, co, li, fl, un⟩) := Lib.hid (F1.out.other hne1 8 _)
  have R2 : Hid (BoxF (w1.setCell ⟨g2, 8, none⟩ (.bool un)) g1 fr0) := Lib.hid (R1.out.other hne2 8 _)
  have X2 : Hid (BoxF (w1.setCell ⟨g2, 8, none⟩ (.bool un)) g2 ⟨22, 0, 0, ⟨#[]⟩, false, 0, li, 0, un⟩) := Lib.hid (X1.out.set8 un)
  have B2 : Hid (Below g0 w (w1.setCell ⟨g2, 8, none⟩ (.bool un))) := Lib.hid (B1.out.setCell (p := ⟨g2, 8, none⟩) hl2 _)
  clear f0 f1 f2 f3 f4 f5 f6 f7 f8 x0 x1 x2 x3 x4 x5 x6 x7 x8 fz F1 R1 X1 B1
  generalize w1.setCell ⟨g2, 8, none⟩ (.bool un) = w2 at *
  obtain ⟨f0, f1, f2, f3, f4, f5, f6, f7, f8⟩ := F2.out.cells
  obtain ⟨x0, x1, x2, x3, x4, x5, x6, x7, x8⟩ := X2.out.cells
  have fz := X2.out.free
  dsimp only at f0 f1 f2 f3 f4 f5 f6 f7 f8 x0 x1 x2 x3 x4 x5 x6 x7 x8
  have rz := R2.out.free
  obtain ⟨r0, r1, r2, r3, r4, r5, r6, r7, r8⟩ := R2.out.cells
  go_wp2
  refine bodyPost_ret (results_cell_row rfl _ _ g1 _ _ _ _ rfl (BoxF.set8 (BoxF.set7 (BoxF.set6 (BoxF.set5 (BoxF.set4 (BoxF.set3 (BoxF.set2 (BoxF.set1 (BoxF.set0 R2.out 22) 0) 0) ⟨#[]⟩) false) 0) li) 0) un) Tryd.underlying25 rfl (by kernel_rfl)) rfl ?_
  exact ⟨rfl, by rw [HG.out]; exact (Below.setCell (Below.setCell (Below.setCell (Below.setCell (Below.setCell (Below.setCell (Below.setCell (Below.setCell (Below.setCell B2.out (p := ⟨g1, 0, none⟩) hl1 _) (p := ⟨g1, 1, none⟩) hl1 _) (p := ⟨g1, 2, none⟩) hl1 _) (p := ⟨g1, 3, none⟩) hl1 _) (p := ⟨g1, 4, none⟩) hl1 _) (p := ⟨g1, 5, none⟩) hl1 _) (p := ⟨g1, 6, none⟩) hl1 _) (p := ⟨g1, 7, none⟩) hl1 _) (p := ⟨g1, 8, none⟩) hl1 _)⟩

set_option maxRecDepth 100000 in
set_option maxHeartbeats 1000000 in
theorem susedN (k : Int) (st ofs co li fl : Int) (dt : ByteArray) (fi un : Bool) (w : World) (hk : k ≠ 4 ∧ k ≠ 5 ∧ k ≠ 8 ∧ k ≠ 17 ∧ k ≠ 21 ∧ k ≠ 18 ∧ k ≠ 22) :
    Calls Tryd.prog 53 #[frV ⟨k, st, ofs, dt, fi, co, li, fl, un⟩] w fun e w' => e = .returned (frV (usedF ⟨k, st, ofs, dt, fi, co, li, fl, un⟩)) ∧ Below w.heap.size w w' := by
  have HB := Lib.hid (sabout ⟨k, st, ofs, dt, fi, co, li, fl, un⟩)
  rw [decide_eq_false (show ¬ aboutK k by unfold aboutK; omega)] at HB
  have e0 : (k == 4) = false := by simp; omega
  have e1 : (k == 5) = false := by simp; omega
  have e2 : (k == 8) = false := by simp; omega
  have e3 : (k == 18) = false := by simp; omega
  have e4 : (k == 22) = false := by simp; omega
  go_enter Tryd.func53, Tryd.ntmps53
  go_wp2_with fail
  refine (HB.out _).mono ?_
  rintro e w0 ⟨rfl, hb⟩
  have F0 : Hid (BoxF w0 w.heap.size ⟨k, st, ofs, dt, fi, co, li, fl, un⟩) := Lib.hid ((((BoxF.new w _).alloc _).alloc _).below hb (by simp; omega))
  have R0 : Hid (BoxF w0 (w.heap.size + 1) fr0) := Lib.hid (BoxF.below (BoxF.alloc (BoxF.at _ fr0 _ (by simp)) _) hb (by simp))
  have X0 : Hid (BoxF w0 (w.heap.size + 1 + 1) ⟨k, 0, 0, ⟨#[]⟩, false, 0, 0, 0, false⟩) := Lib.hid (BoxF.below (BoxF.at _ ⟨k, 0, 0, ⟨#[]⟩, false, 0, 0, 0, false⟩ _ (by simp)) hb (by simp))
  have B0 : Hid (Below w.heap.size w w0) := Lib.hid ((((Below.refl _ _).alloc (Nat.le_refl _) _).alloc (by simp) _).alloc (by simp; omega) _ |>.trans (hb.mono (by simp; omega)))
  clear hb HB
  have hne1 : w.heap.size + 1 + 1 ≠ w.heap.size := by omega
  have hne2 : w.heap.size + 1 + 1 ≠ w.heap.size + 1 := by omega
  have hne3 : w.heap.size + 1 ≠ w.heap.size := by omega
  have hl1 : w.heap.size ≤ w.heap.size + 1 := by omega
  have hl2 : w.heap.size ≤ w.heap.size + 1 + 1 := by omega
  generalize w.heap.size + 1 + 1 = g2 at *
  generalize w.heap.size + 1 = g1 at *
  generalize hg0 : w.heap.size = g0 at *
  have HG := Lib.hid hg0
  clear hg0
  obtain ⟨f0, f1, f2, f3, f4, f5, f6, f7, f8⟩ := F0.out.cells
  obtain ⟨x0, x1, x2, x3, x4, x5, x6, x7, x8⟩ := X0.out.cells
  have fz := X0.out.free
  dsimp only at f0 f1 f2 f3 f4 f5 f6 f7 f8 x0 x1 x2 x3 x4 x5 x6 x7 x8
  go_upto_region 19 with fail
  have F1 : Hid (BoxF (w0.setCell ⟨g2, 6, none⟩ (.int .i64 li)) g0 ⟨k, st, ofs, dt, fi, co, li, fl, un⟩) := Lib.hid (F0.out.other hne1 6 _)
  have R1 : Hid (BoxF (w0.setCell ⟨g2, 6, none⟩ (.int .i64 li)) g1 fr0) := Lib.hid (R0.out.other hne2 6 _)
  have X1 : Hid (BoxF (w0.setCell ⟨g2, 6, none⟩ (.int .i64 li)) g2 ⟨k, 0, 0, ⟨#[]⟩, false, 0, li, 0, false⟩) := Lib.hid (X0.out.set6 li)
  have B1 : Hid (Below g0 w (w0.setCell ⟨g2, 6, none⟩ (.int .i64 li))) := Lib.hid (B0.out.setCell (p := ⟨g2, 6, none⟩) hl2 _)
  clear f0 f1 f2 f3 f4 f5 f6 f7 f8 x0 x1 x2 x3 x4 x5 x6 x7 x8 fz F0 R0 X0 B0
  generalize w0.setCell ⟨g2, 6, none⟩ (.int .i64 li) = w1 at *
  obtain ⟨f0, f1, f2, f3, f4, f5, f6, f7, f8⟩ := F1.out.cells
  obtain ⟨x0, x1, x2, x3, x4, x5, x6, x7, x8⟩ := X1.out.cells
  have fz := X1.out.free
  dsimp only at f0 f1 f2 f3 f4 f5 f6 f7 f8 x0 x1 x2 x3 x4 x5 x6 x7 x8
  have rz := R1.out.free
  obtain ⟨r0, r1, r2, r3, r4, r5, r6, r7, r8⟩ := R1.out.cells
  go_wp2
  refine bodyPost_ret (results_cell_row rfl _ _ g1 _ _ _ _ rfl (BoxF.set8 (BoxF.set7 (BoxF.set6 (BoxF.set5 (BoxF.set4 (BoxF.set3 (BoxF.set2 (BoxF.set1 (BoxF.set0 R1.out k) 0) 0) ⟨#[]⟩) false) 0) li) 0) false) Tryd.underlying25 rfl (by kernel_rfl)) rfl ?_
  refine ⟨Eq.trans ?_ (congrArg (fun f => Ending.returned (frV f)) (usedF_other k st ofs co li fl dt fi un hk).symm), by rw [HG.out]; exact (Below.setCell (Below.setCell (Below.setCell (Below.setCell (Below.setCell (Below.setCell (Below.setCell (Below.setCell (Below.setCell B1.out (p := ⟨g1, 0, none⟩) hl1 _) (p := ⟨g1, 1, none⟩) hl1 _) (p := ⟨g1, 2, none⟩) hl1 _) (p := ⟨g1, 3, none⟩) hl1 _) (p := ⟨g1, 4, none⟩) hl1 _) (p := ⟨g1, 5, none⟩) hl1 _) (p := ⟨g1, 6, none⟩) hl1 _) (p := ⟨g1, 7, none⟩) hl1 _) (p := ⟨g1, 8, none⟩) hl1 _)⟩
  rfl

/-- spec.l4Used -/
theorem sused (f : Fr) (w : World) :
    Calls Tryd.prog 53 #[frV f] w fun e w' => e = .returned (frV (usedF f)) ∧ Below w.heap.size w w' := by
  obtain ⟨k, st, ofs, dt, fi, co, li, fl, un⟩ := f
  by_cases h4 : k = 4
  · subst h4; exact sused4 st ofs co li fl dt fi un w
  by_cases h5 : k = 5
  · subst h5; exact sused5 st ofs co li fl dt fi un w
  by_cases h8 : k = 8
  · subst h8; exact sused8 st ofs co li fl dt fi un w
  by_cases h17 : k = 17
  · subst h17; exact sused17 st ofs co li fl dt fi un w
  by_cases h21 : k = 21
  · subst h21; exact sused21 st ofs co li fl dt fi un w
  by_cases h18 : k = 18
  · subst h18; exact sused18 st ofs co li fl dt fi un w
  by_cases h22 : k = 22
  · subst h22; exact sused22 st ofs co li fl dt fi un w
  exact susedN k st ofs co li fl dt fi un w ⟨h4, h5, h8, h17, h21, h18, h22⟩
end Go.Proofs.YtjbppociogoopaaDoor
