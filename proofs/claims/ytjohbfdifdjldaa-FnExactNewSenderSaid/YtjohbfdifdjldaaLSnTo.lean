/-
  What laws.toSender returns.
-/
import Derived.Test.YtjohbfdifdjldaaLSn
namespace Go.Proofs.Ytjohbfdifdjldaa
open Go.RowKit Go.Deep Go.Proofs.Ytjohbfdifdjldaa.Num

theorem row_set {w : World} {g : Nat} {cs : Array Value} {t : TypeId} (x : w.heap[g]? = some (.cells cs t (0, 0))) (k : Nat) (v : Value) : (w.setCell ⟨g, k, none⟩ v).heap[g]? = some (.cells (cs.setIfInBounds k v) t (0, 0)) := by
  simp [World.setCell, Array.getElem?_modify, x]
/-- While a sender is copied: the argument in block n, the result in n + 1, the copy in n + 2. -/
def CopS (w0 : World) (n : Nat) (s : Sn) (v1 v2 v3 v4 : Value) (cs : Array Value) (W : World) : Prop :=
  CellS W n s v1 v2 v3 v4 ∧ W.heap[n + 1]? = some (.cells (snC 0 0 0 0 (.slice none 0 0) (.slice none 0 0) (.slice none 0 0) (.slice none 0 0) 0 0 0 0) 27 (0, 0)) ∧ W.heap[n + 1 + 1]? = some (.cells cs 27 (0, 0)) ∧ n + 1 + 1 < W.heap.size ∧ Below n w0 W
theorem CopS.next {w0 : World} {n : Nat} {s : Sn} {v1 v2 v3 v4 : Value} {cs : Array Value} {W W' : World} (h : CopS w0 n s v1 v2 v3 v4 cs W) (hb : Below W.heap.size W W') : CopS w0 n s v1 v2 v3 v4 cs W' := by
  have h0 := h.2.2.2.1
  exact ⟨h.1.below hb (by omega), (hb.block _ (by omega)).trans h.2.1, (hb.block _ (by omega)).trans h.2.2.1, Nat.lt_of_lt_of_le h0 hb.size, h.2.2.2.2.trans (hb.mono (by omega))⟩
theorem CopS.set {w0 : World} {n : Nat} {s : Sn} {v1 v2 v3 v4 : Value} {cs : Array Value} {W : World} (h : CopS w0 n s v1 v2 v3 v4 cs W) (k : Nat) (y : Value) : CopS w0 n s v1 v2 v3 v4 (cs.setIfInBounds k y) (W.setCell ⟨n + 1 + 1, k, none⟩ y) := by
  have h0 := h.2.2.2.1
  exact ⟨h.1.of (Below.heap_setCell W ⟨n + 1 + 1, k, none⟩ y n (by show n ≠ n + 1 + 1; omega)), (Below.heap_setCell W ⟨n + 1 + 1, k, none⟩ y (n + 1) (by show n + 1 ≠ n + 1 + 1; omega)).trans h.2.1, row_set h.2.2.1 k y, by simpa [World.setCell] using h0, h.2.2.2.2.setCell (p := ⟨n + 1 + 1, k, none⟩) (by show n ≤ n + 1 + 1; omega) _⟩
theorem CopS.free {w0 : World} {n : Nat} {s : Sn} {v1 v2 v3 v4 : Value} {cs : Array Value} {W : World} (h : CopS w0 n s v1 v2 v3 v4 cs W) (k : Nat) : W.frozen? ⟨n + 1 + 1, k, none⟩ = false := by
  simp [World.frozen?, h.2.2.1]
theorem CopS.free1 {w0 : World} {n : Nat} {s : Sn} {v1 v2 v3 v4 : Value} {cs : Array Value} {W : World} (h : CopS w0 n s v1 v2 v3 v4 cs W) (k : Nat) : W.frozen? ⟨n + 1, k, none⟩ = false := by
  simp [World.frozen?, h.2.1]
/-- A sender is laid into block g. -/
abbrev put12 (W : World) (g : Nat) (s : Sn) (v1 v2 v3 v4 : Value) : World :=
  (((((((((((W.setCell ⟨g, 0, none⟩ (.int .i64 s.st)).setCell ⟨g, 1, none⟩ (.int .i64 s.rn.size)).setCell ⟨g, 2, none⟩ (.int .i64 s.rn.base)).setCell ⟨g, 3, none⟩ (.int .i64 s.rn.en)).setCell ⟨g, 4, none⟩ v1).setCell ⟨g, 5, none⟩ v2).setCell ⟨g, 6, none⟩ v3).setCell ⟨g, 7, none⟩ v4).setCell ⟨g, 8, none⟩ (.int .i64 s.fin)).setCell ⟨g, 9, none⟩ (.int .i64 s.fi)).setCell ⟨g, 10, none⟩ (.int .i64 s.sent)).setCell ⟨g, 11, none⟩ (.int .i64 s.code)
theorem set12 (a0 a1 a2 a3 a4 a5 a6 a7 a8 a9 a10 a11 b0 b1 b2 b3 b4 b5 b6 b7 b8 b9 b10 b11 : Value) :
    (((((((((((((#[a0, a1, a2, a3, a4, a5, a6, a7, a8, a9, a10, a11] : Array Value).setIfInBounds 0 b0).setIfInBounds 1 b1).setIfInBounds 2 b2).setIfInBounds 3 b3).setIfInBounds 4 b4).setIfInBounds 5 b5).setIfInBounds 6 b6).setIfInBounds 7 b7).setIfInBounds 8 b8).setIfInBounds 9 b9).setIfInBounds 10 b10).setIfInBounds 11 b11) = #[b0, b1, b2, b3, b4, b5, b6, b7, b8, b9, b10, b11] := by
  simp
theorem put12_row {W : World} {g : Nat} {t : TypeId} {a0 a1 a2 a3 a4 a5 a6 a7 a8 a9 a10 a11 : Value} (x : W.heap[g]? = some (.cells #[a0, a1, a2, a3, a4, a5, a6, a7, a8, a9, a10, a11] t (0, 0))) (s : Sn) (v1 v2 v3 v4 : Value) :
    (put12 W g s v1 v2 v3 v4).heap[g]? = some (.cells (snB s v1 v2 v3 v4) t (0, 0)) := by
  have h := row_set (row_set (row_set (row_set (row_set (row_set (row_set (row_set (row_set (row_set (row_set (row_set x 0 (.int .i64 s.st)) 1 (.int .i64 s.rn.size)) 2 (.int .i64 s.rn.base)) 3 (.int .i64 s.rn.en)) 4 v1) 5 v2) 6 v3) 7 v4) 8 (.int .i64 s.fin)) 9 (.int .i64 s.fi)) 10 (.int .i64 s.sent)) 11 (.int .i64 s.code)
  rw [set12] at h
  exact h
theorem put12_own {W : World} {B g : Nat} {u1 u2 u3 u4 : Value} {l1 : List Int} {l2 l3 l4 : List Rg} (h : OwnS W B u1 u2 u3 u4 l1 l2 l3 l4) (hg : g < B) (s : Sn) (v1 v2 v3 v4 : Value) : OwnS (put12 W g s v1 v2 v3 v4) B u1 u2 u3 u4 l1 l2 l3 l4 :=
  (((((((((((h.apart g 0 _ hg).apart g 1 _ hg).apart g 2 _ hg).apart g 3 _ hg).apart g 4 _ hg).apart g 5 _ hg).apart g 6 _ hg).apart g 7 _ hg).apart g 8 _ hg).apart g 9 _ hg).apart g 10 _ hg).apart g 11 _ hg
theorem put12_below {a W : World} {B g : Nat} (h : Below B a W) (hg : B ≤ g) (s : Sn) (v1 v2 v3 v4 : Value) : Below B a (put12 W g s v1 v2 v3 v4) :=
  (((((((((((h.setCell (p := ⟨g, 0, none⟩) hg _).setCell (p := ⟨g, 1, none⟩) hg _).setCell (p := ⟨g, 2, none⟩) hg _).setCell (p := ⟨g, 3, none⟩) hg _).setCell (p := ⟨g, 4, none⟩) hg _).setCell (p := ⟨g, 5, none⟩) hg _).setCell (p := ⟨g, 6, none⟩) hg _).setCell (p := ⟨g, 7, none⟩) hg _).setCell (p := ⟨g, 8, none⟩) hg _).setCell (p := ⟨g, 9, none⟩) hg _).setCell (p := ⟨g, 10, none⟩) hg _).setCell (p := ⟨g, 11, none⟩) hg _
theorem rowS_cells {w : World} {g : Nat} {st sz b e : Int} {v1 v2 v3 v4 : Value} {fin fi sent code : Int} {t : TypeId} {fr : Nat × Nat} (x : w.heap[g]? = some (.cells (snC st sz b e v1 v2 v3 v4 fin fi sent code) t fr)) : Cell12 w g st sz b e v1 v2 v3 v4 fin fi sent code :=
  ⟨cell_of_row w g 0 _ _ _ x, cell_of_row w g 1 _ _ _ x, cell_of_row w g 2 _ _ _ x, cell_of_row w g 3 _ _ _ x, cell_of_row w g 4 _ _ _ x, cell_of_row w g 5 _ _ _ x, cell_of_row w g 6 _ _ _ x, cell_of_row w g 7 _ _ _ x, cell_of_row w g 8 _ _ _ x, cell_of_row w g 9 _ _ _ x, cell_of_row w g 10 _ _ _ x, cell_of_row w g 11 _ _ _ x⟩
set_option maxRecDepth 100000 in
set_option maxHeartbeats 2000000 in
/-- laws.toSender: a copy, in new blocks. -/
theorem tosn (s : Sn) (A1 A2 A3 A4 : Option Addr) (c1 c2 c3 c4 : Nat) (w : World) (hr : ReadS w w.heap.size A1 A2 A3 A4 s) (hn : s.rn.cs.length ≤ 1048576 ∧ s.pe.length ≤ 1048576 ∧ s.fl.length ≤ 1048576 ∧ s.ac.length ≤ 1048576) :
    Calls Try.prog 12 #[snV s (.slice A1 s.rn.cs.length c1) (.slice A2 s.pe.length c2) (.slice A3 s.fl.length c3) (.slice A4 s.ac.length c4)] w fun e w' => ∃ g1 g2 g3 g4 : Nat, e = .returned (snV s (.slice (some ⟨g1, 0, none⟩) s.rn.cs.length s.rn.cs.length) (.slice (some ⟨g2, 0, none⟩) s.pe.length s.pe.length) (.slice (some ⟨g3, 0, none⟩) s.fl.length s.fl.length) (.slice (some ⟨g4, 0, none⟩) s.ac.length s.ac.length)) ∧ OwnSn w' w.heap.size (.slice (some ⟨g1, 0, none⟩) s.rn.cs.length s.rn.cs.length) (.slice (some ⟨g2, 0, none⟩) s.pe.length s.pe.length) (.slice (some ⟨g3, 0, none⟩) s.fl.length s.fl.length) (.slice (some ⟨g4, 0, none⟩) s.ac.length s.ac.length) s ∧ Below w.heap.size w w' := by
  obtain ⟨n1, n2, n3, n4⟩ := hn
  have HR := Lib.hid hr
  clear hr
  have s1 : ∀ o1, (w.alloc o1).heap.size = w.heap.size + 1 := fun _ => by simp
  have s2 : ∀ o1 o2, ((w.alloc o1).alloc o2).heap.size = w.heap.size + 2 := fun _ _ => by simp
  have s3 : ∀ o1 o2 o3, (((w.alloc o1).alloc o2).alloc o3).heap.size = w.heap.size + 3 := fun _ _ _ => by simp
  have b1 := (Below.refl w.heap.size w).alloc (Nat.le_refl _) (.cells (snB s (.slice A1 s.rn.cs.length c1) (.slice A2 s.pe.length c2) (.slice A3 s.fl.length c3) (.slice A4 s.ac.length c4)) 36)
  have b2 := (Below.refl (w.heap.size + 1) (w.alloc (.cells (snB s (.slice A1 s.rn.cs.length c1) (.slice A2 s.pe.length c2) (.slice A3 s.fl.length c3) (.slice A4 s.ac.length c4)) 36))).alloc (by simp) (.cells (snC 0 0 0 0 (.slice none 0 0) (.slice none 0 0) (.slice none 0 0) (.slice none 0 0) 0 0 0 0) 27)
  have b3 := (Below.refl (w.heap.size + 2) ((w.alloc (.cells (snB s (.slice A1 s.rn.cs.length c1) (.slice A2 s.pe.length c2) (.slice A3 s.fl.length c3) (.slice A4 s.ac.length c4)) 36)).alloc (.cells (snC 0 0 0 0 (.slice none 0 0) (.slice none 0 0) (.slice none 0 0) (.slice none 0 0) 0 0 0 0) 27))).alloc (by simp) (.cells (snC s.st 0 0 0 (.slice none 0 0) (.slice none 0 0) (.slice none 0 0) (.slice none 0 0) 0 0 0 0) 27)
  have x1 := heap_alloc_new (w.alloc (.cells (snB s (.slice A1 s.rn.cs.length c1) (.slice A2 s.pe.length c2) (.slice A3 s.fl.length c3) (.slice A4 s.ac.length c4)) 36)) (.cells (snC 0 0 0 0 (.slice none 0 0) (.slice none 0 0) (.slice none 0 0) (.slice none 0 0) 0 0 0 0) 27)
  have x2 := heap_alloc_new ((w.alloc (.cells (snB s (.slice A1 s.rn.cs.length c1) (.slice A2 s.pe.length c2) (.slice A3 s.fl.length c3) (.slice A4 s.ac.length c4)) 36)).alloc (.cells (snC 0 0 0 0 (.slice none 0 0) (.slice none 0 0) (.slice none 0 0) (.slice none 0 0) 0 0 0 0) 27)) (.cells (snC s.st 0 0 0 (.slice none 0 0) (.slice none 0 0) (.slice none 0 0) (.slice none 0 0) 0 0 0 0) 27)
  rw [s1] at x1
  rw [s2] at x2
  have HC0 := Lib.hid (show CopS w w.heap.size s (.slice A1 s.rn.cs.length c1) (.slice A2 s.pe.length c2) (.slice A3 s.fl.length c3) (.slice A4 s.ac.length c4) (snC s.st 0 0 0 (.slice none 0 0) (.slice none 0 0) (.slice none 0 0) (.slice none 0 0) 0 0 0 0) (((w.alloc (.cells (snB s (.slice A1 s.rn.cs.length c1) (.slice A2 s.pe.length c2) (.slice A3 s.fl.length c3) (.slice A4 s.ac.length c4)) 36)).alloc (.cells (snC 0 0 0 0 (.slice none 0 0) (.slice none 0 0) (.slice none 0 0) (.slice none 0 0) 0 0 0 0) 27)).alloc (.cells (snC s.st 0 0 0 (.slice none 0 0) (.slice none 0 0) (.slice none 0 0) (.slice none 0 0) 0 0 0 0) 27)) from ⟨((Cell12.new w _ _ _ _ _ _ _ _ _ _ _ _ _).below b2 (Nat.lt_succ_self _)).below b3 (by omega), (b3.block _ (by omega)).trans x1, x2, by rw [s3]; omega, (b1.trans (b2.mono (by omega))).trans (b3.mono (by omega))⟩)
  have HS := Lib.hid (s3 (.cells (snB s (.slice A1 s.rn.cs.length c1) (.slice A2 s.pe.length c2) (.slice A3 s.fl.length c3) (.slice A4 s.ac.length c4)) 36) (.cells (snC 0 0 0 0 (.slice none 0 0) (.slice none 0 0) (.slice none 0 0) (.slice none 0 0) 0 0 0 0) 27) (.cells (snC s.st 0 0 0 (.slice none 0 0) (.slice none 0 0) (.slice none 0 0) (.slice none 0 0) 0 0 0 0) 27))
  clear s1 s2 s3 b1 b2 b3 x1 x2
  go_enter Try.func12, Try.ntmps12
  go_wp2_with fail
  generalize ((w.alloc (.cells (snB s (.slice A1 s.rn.cs.length c1) (.slice A2 s.pe.length c2) (.slice A3 s.fl.length c3) (.slice A4 s.ac.length c4)) 36)).alloc (.cells (snC 0 0 0 0 (.slice none 0 0) (.slice none 0 0) (.slice none 0 0) (.slice none 0 0) 0 0 0 0) 27)).alloc (.cells (snC s.st 0 0 0 (.slice none 0 0) (.slice none 0 0) (.slice none 0 0) (.slice none 0 0) 0 0 0 0) 27) = w0 at *
  refine (torn s.rn A1 c1 w0.heap.size w0 (Nat.le_refl _) ((HR.out.below (Nat.le_refl _) HC0.out.2.2.2.2).up HC0.out.2.2.2.2.size).1 n1).mono ?_
  rintro e w1 ⟨g1, rfl, ho, hb⟩
  have hlt := ho.lt g1 rfl
  have hbs := HC0.out.2.2.2.1
  have HCn := Lib.hid (HC0.out.next hb)
  obtain ⟨a0, a1, a2, a3, a4, a5, a6, a7, a8, a9, a10, a11⟩ := HCn.out.1
  obtain ⟨p0, p1, p2, p3, p4, p5, p6, p7, p8, p9, p10, p11⟩ := rowS_cells HCn.out.2.2.1
  have ff := HCn.out.free
  have HC1 := Lib.hid (show CopS w w.heap.size s (.slice A1 s.rn.cs.length c1) (.slice A2 s.pe.length c2) (.slice A3 s.fl.length c3) (.slice A4 s.ac.length c4) (snC s.st s.rn.size s.rn.base s.rn.en (.slice (some ⟨g1, 0, none⟩) s.rn.cs.length s.rn.cs.length) (.slice none 0 0) (.slice none 0 0) (.slice none 0 0) 0 0 0 0) ((((w1.setCell ⟨w.heap.size + 1 + 1, 1, none⟩ (.int .i64 s.rn.size)).setCell ⟨w.heap.size + 1 + 1, 2, none⟩ (.int .i64 s.rn.base)).setCell ⟨w.heap.size + 1 + 1, 3, none⟩ (.int .i64 s.rn.en)).setCell ⟨w.heap.size + 1 + 1, 4, none⟩ (.slice (some ⟨g1, 0, none⟩) s.rn.cs.length s.rn.cs.length)) from ((((HCn.out).set 1 (.int .i64 s.rn.size)).set 2 (.int .i64 s.rn.base)).set 3 (.int .i64 s.rn.en)).set 4 (.slice (some ⟨g1, 0, none⟩) s.rn.cs.length s.rn.cs.length))
  have HO1_1 := Lib.hid ((((((ho.weaken (base' := w.heap.size + 3) (by omega))).apart (w.heap.size + 1 + 1) 1 (.int .i64 s.rn.size) (by omega)).apart (w.heap.size + 1 + 1) 2 (.int .i64 s.rn.base) (by omega)).apart (w.heap.size + 1 + 1) 3 (.int .i64 s.rn.en) (by omega)).apart (w.heap.size + 1 + 1) 4 (.slice (some ⟨g1, 0, none⟩) s.rn.cs.length s.rn.cs.length) (by omega))
  have HL1 := Lib.hid (show g1 < ((((w1.setCell ⟨w.heap.size + 1 + 1, 1, none⟩ (.int .i64 s.rn.size)).setCell ⟨w.heap.size + 1 + 1, 2, none⟩ (.int .i64 s.rn.base)).setCell ⟨w.heap.size + 1 + 1, 3, none⟩ (.int .i64 s.rn.en)).setCell ⟨w.heap.size + 1 + 1, 4, none⟩ (.slice (some ⟨g1, 0, none⟩) s.rn.cs.length s.rn.cs.length)).heap.size by simpa [World.setCell] using hlt.2)
  clear ho hb hlt hbs HC0 
  go_wp2_with fail
  clear HCn ff a0 a1 a2 a3 a4 a5 a6 a7 a8 a9 a10 a11 p0 p1 p2 p3 p4 p5 p6 p7 p8 p9 p10 p11
  obtain ⟨W1, hW⟩ : ∃ W, ((((w1.setCell ⟨w.heap.size + 1 + 1, 1, none⟩ (.int .i64 s.rn.size)).setCell ⟨w.heap.size + 1 + 1, 2, none⟩ (.int .i64 s.rn.base)).setCell ⟨w.heap.size + 1 + 1, 3, none⟩ (.int .i64 s.rn.en)).setCell ⟨w.heap.size + 1 + 1, 4, none⟩ (.slice (some ⟨g1, 0, none⟩) s.rn.cs.length s.rn.cs.length)) = W := ⟨_, rfl⟩
  rw [hW] at HC1 HO1_1 HL1
  rw [hW]
  clear hW
  refine (toranges s.pe A2 c2 W1.heap.size W1 (Nat.le_refl _) ((HR.out.below (Nat.le_refl _) HC1.out.2.2.2.2).up HC1.out.2.2.2.2.size).2.1 n2).mono ?_
  rintro e w2 ⟨rfl, hrow, hb⟩
  have ho := hrow.own.p
  obtain ⟨g2, hg2⟩ : ∃ g, g = W1.heap.size := ⟨_, rfl⟩
  rw [← hg2] at ho
  rw [← hg2]
  have HG2 := Lib.hid hg2
  clear hg2
  have hlt := ho.lt g2 rfl
  have hbs := HC1.out.2.2.2.1
  have HCn := Lib.hid (HC1.out.next hb)
  obtain ⟨a0, a1, a2, a3, a4, a5, a6, a7, a8, a9, a10, a11⟩ := HCn.out.1
  obtain ⟨p0, p1, p2, p3, p4, p5, p6, p7, p8, p9, p10, p11⟩ := rowS_cells HCn.out.2.2.1
  have ff := HCn.out.free
  have HC2 := Lib.hid (show CopS w w.heap.size s (.slice A1 s.rn.cs.length c1) (.slice A2 s.pe.length c2) (.slice A3 s.fl.length c3) (.slice A4 s.ac.length c4) (snC s.st s.rn.size s.rn.base s.rn.en (.slice (some ⟨g1, 0, none⟩) s.rn.cs.length s.rn.cs.length) (.slice (some ⟨g2, 0, none⟩) s.pe.length s.pe.length) (.slice none 0 0) (.slice none 0 0) 0 0 0 0) (w2.setCell ⟨w.heap.size + 1 + 1, 5, none⟩ (.slice (some ⟨g2, 0, none⟩) s.pe.length s.pe.length)) from (HCn.out).set 5 (.slice (some ⟨g2, 0, none⟩) s.pe.length s.pe.length))
  have HO1_2 := Lib.hid (((HO1_1.out.later hb)).apart (w.heap.size + 1 + 1) 5 (.slice (some ⟨g2, 0, none⟩) s.pe.length s.pe.length) (by omega))
  have HO2_2 := Lib.hid (((ho.weaken (base' := w.heap.size + 3) (by have := HG2.out; omega))).apart (w.heap.size + 1 + 1) 5 (.slice (some ⟨g2, 0, none⟩) s.pe.length s.pe.length) (by omega))
  have HL2 := Lib.hid (show g2 < (w2.setCell ⟨w.heap.size + 1 + 1, 5, none⟩ (.slice (some ⟨g2, 0, none⟩) s.pe.length s.pe.length)).heap.size by simpa [World.setCell] using hlt.2)
  have HD1_2 := Lib.hid (show g1 < g2 by have := HL1.out; have := HG2.out; omega)
  clear ho hb hlt hbs HC1 HO1_1 hrow
  have HL1 := Lib.hid (show g1 < (w2.setCell ⟨w.heap.size + 1 + 1, 5, none⟩ (.slice (some ⟨g2, 0, none⟩) s.pe.length s.pe.length)).heap.size by have := HD1_2.out; have := HL2.out; omega)
  go_wp2_with fail
  clear HCn ff a0 a1 a2 a3 a4 a5 a6 a7 a8 a9 a10 a11 p0 p1 p2 p3 p4 p5 p6 p7 p8 p9 p10 p11
  obtain ⟨W2, hW⟩ : ∃ W, (w2.setCell ⟨w.heap.size + 1 + 1, 5, none⟩ (.slice (some ⟨g2, 0, none⟩) s.pe.length s.pe.length)) = W := ⟨_, rfl⟩
  rw [hW] at HC2 HO1_2 HO2_2 HL1 HL2
  rw [hW]
  clear hW
  refine (toranges s.fl A3 c3 W2.heap.size W2 (Nat.le_refl _) ((HR.out.below (Nat.le_refl _) HC2.out.2.2.2.2).up HC2.out.2.2.2.2.size).2.2.1 n3).mono ?_
  rintro e w3 ⟨rfl, hrow, hb⟩
  have ho := hrow.own.p
  obtain ⟨g3, hg3⟩ : ∃ g, g = W2.heap.size := ⟨_, rfl⟩
  rw [← hg3] at ho
  rw [← hg3]
  have HG3 := Lib.hid hg3
  clear hg3
  have hlt := ho.lt g3 rfl
  have hbs := HC2.out.2.2.2.1
  have HCn := Lib.hid (HC2.out.next hb)
  obtain ⟨a0, a1, a2, a3, a4, a5, a6, a7, a8, a9, a10, a11⟩ := HCn.out.1
  obtain ⟨p0, p1, p2, p3, p4, p5, p6, p7, p8, p9, p10, p11⟩ := rowS_cells HCn.out.2.2.1
  have ff := HCn.out.free
  have HC3 := Lib.hid (show CopS w w.heap.size s (.slice A1 s.rn.cs.length c1) (.slice A2 s.pe.length c2) (.slice A3 s.fl.length c3) (.slice A4 s.ac.length c4) (snC s.st s.rn.size s.rn.base s.rn.en (.slice (some ⟨g1, 0, none⟩) s.rn.cs.length s.rn.cs.length) (.slice (some ⟨g2, 0, none⟩) s.pe.length s.pe.length) (.slice (some ⟨g3, 0, none⟩) s.fl.length s.fl.length) (.slice none 0 0) 0 0 0 0) (w3.setCell ⟨w.heap.size + 1 + 1, 6, none⟩ (.slice (some ⟨g3, 0, none⟩) s.fl.length s.fl.length)) from (HCn.out).set 6 (.slice (some ⟨g3, 0, none⟩) s.fl.length s.fl.length))
  have HO1_3 := Lib.hid (((HO1_2.out.later hb)).apart (w.heap.size + 1 + 1) 6 (.slice (some ⟨g3, 0, none⟩) s.fl.length s.fl.length) (by omega))
  have HO2_3 := Lib.hid (((HO2_2.out.later hb)).apart (w.heap.size + 1 + 1) 6 (.slice (some ⟨g3, 0, none⟩) s.fl.length s.fl.length) (by omega))
  have HO3_3 := Lib.hid (((ho.weaken (base' := w.heap.size + 3) (by have := HG3.out; omega))).apart (w.heap.size + 1 + 1) 6 (.slice (some ⟨g3, 0, none⟩) s.fl.length s.fl.length) (by omega))
  have HL3 := Lib.hid (show g3 < (w3.setCell ⟨w.heap.size + 1 + 1, 6, none⟩ (.slice (some ⟨g3, 0, none⟩) s.fl.length s.fl.length)).heap.size by simpa [World.setCell] using hlt.2)
  have HD1_3 := Lib.hid (show g1 < g3 by have := HL1.out; have := HG3.out; omega)
  have HD2_3 := Lib.hid (show g2 < g3 by have := HL2.out; have := HG3.out; omega)
  clear ho hb hlt hbs HC2 HO1_2 HO2_2 hrow
  have HL1 := Lib.hid (show g1 < (w3.setCell ⟨w.heap.size + 1 + 1, 6, none⟩ (.slice (some ⟨g3, 0, none⟩) s.fl.length s.fl.length)).heap.size by have := HD1_3.out; have := HL3.out; omega)
  have HL2 := Lib.hid (show g2 < (w3.setCell ⟨w.heap.size + 1 + 1, 6, none⟩ (.slice (some ⟨g3, 0, none⟩) s.fl.length s.fl.length)).heap.size by have := HD2_3.out; have := HL3.out; omega)
  go_wp2_with fail
  clear HCn ff a0 a1 a2 a3 a4 a5 a6 a7 a8 a9 a10 a11 p0 p1 p2 p3 p4 p5 p6 p7 p8 p9 p10 p11
  obtain ⟨W3, hW⟩ : ∃ W, (w3.setCell ⟨w.heap.size + 1 + 1, 6, none⟩ (.slice (some ⟨g3, 0, none⟩) s.fl.length s.fl.length)) = W := ⟨_, rfl⟩
  rw [hW] at HC3 HO1_3 HO2_3 HO3_3 HL1 HL2 HL3
  rw [hW]
  clear hW
  refine (toranges s.ac A4 c4 W3.heap.size W3 (Nat.le_refl _) ((HR.out.below (Nat.le_refl _) HC3.out.2.2.2.2).up HC3.out.2.2.2.2.size).2.2.2 n4).mono ?_
  rintro e w4 ⟨rfl, hrow, hb⟩
  have ho := hrow.own.p
  obtain ⟨g4, hg4⟩ : ∃ g, g = W3.heap.size := ⟨_, rfl⟩
  rw [← hg4] at ho
  rw [← hg4]
  have HG4 := Lib.hid hg4
  clear hg4
  have hlt := ho.lt g4 rfl
  have hbs := HC3.out.2.2.2.1
  have HCn := Lib.hid (HC3.out.next hb)
  obtain ⟨a0, a1, a2, a3, a4, a5, a6, a7, a8, a9, a10, a11⟩ := HCn.out.1
  obtain ⟨p0, p1, p2, p3, p4, p5, p6, p7, p8, p9, p10, p11⟩ := rowS_cells HCn.out.2.2.1
  have ff := HCn.out.free
  have HC4 := Lib.hid (show CopS w w.heap.size s (.slice A1 s.rn.cs.length c1) (.slice A2 s.pe.length c2) (.slice A3 s.fl.length c3) (.slice A4 s.ac.length c4) (snC s.st s.rn.size s.rn.base s.rn.en (.slice (some ⟨g1, 0, none⟩) s.rn.cs.length s.rn.cs.length) (.slice (some ⟨g2, 0, none⟩) s.pe.length s.pe.length) (.slice (some ⟨g3, 0, none⟩) s.fl.length s.fl.length) (.slice (some ⟨g4, 0, none⟩) s.ac.length s.ac.length) 0 0 0 0) (w4.setCell ⟨w.heap.size + 1 + 1, 7, none⟩ (.slice (some ⟨g4, 0, none⟩) s.ac.length s.ac.length)) from (HCn.out).set 7 (.slice (some ⟨g4, 0, none⟩) s.ac.length s.ac.length))
  have HO1_4 := Lib.hid (((HO1_3.out.later hb)).apart (w.heap.size + 1 + 1) 7 (.slice (some ⟨g4, 0, none⟩) s.ac.length s.ac.length) (by omega))
  have HO2_4 := Lib.hid (((HO2_3.out.later hb)).apart (w.heap.size + 1 + 1) 7 (.slice (some ⟨g4, 0, none⟩) s.ac.length s.ac.length) (by omega))
  have HO3_4 := Lib.hid (((HO3_3.out.later hb)).apart (w.heap.size + 1 + 1) 7 (.slice (some ⟨g4, 0, none⟩) s.ac.length s.ac.length) (by omega))
  have HO4_4 := Lib.hid (((ho.weaken (base' := w.heap.size + 3) (by have := HG4.out; omega))).apart (w.heap.size + 1 + 1) 7 (.slice (some ⟨g4, 0, none⟩) s.ac.length s.ac.length) (by omega))
  have HL4 := Lib.hid (show g4 < (w4.setCell ⟨w.heap.size + 1 + 1, 7, none⟩ (.slice (some ⟨g4, 0, none⟩) s.ac.length s.ac.length)).heap.size by simpa [World.setCell] using hlt.2)
  have HD1_4 := Lib.hid (show g1 < g4 by have := HL1.out; have := HG4.out; omega)
  have HD2_4 := Lib.hid (show g2 < g4 by have := HL2.out; have := HG4.out; omega)
  have HD3_4 := Lib.hid (show g3 < g4 by have := HL3.out; have := HG4.out; omega)
  clear ho hb hlt hbs HC3 HO1_3 HO2_3 HO3_3 hrow
  have HL1 := Lib.hid (show g1 < (w4.setCell ⟨w.heap.size + 1 + 1, 7, none⟩ (.slice (some ⟨g4, 0, none⟩) s.ac.length s.ac.length)).heap.size by have := HD1_4.out; have := HL4.out; omega)
  have HL2 := Lib.hid (show g2 < (w4.setCell ⟨w.heap.size + 1 + 1, 7, none⟩ (.slice (some ⟨g4, 0, none⟩) s.ac.length s.ac.length)).heap.size by have := HD2_4.out; have := HL4.out; omega)
  have HL3 := Lib.hid (show g3 < (w4.setCell ⟨w.heap.size + 1 + 1, 7, none⟩ (.slice (some ⟨g4, 0, none⟩) s.ac.length s.ac.length)).heap.size by have := HD3_4.out; have := HL4.out; omega)
  have f1 := HCn.out.free1
  obtain ⟨z0, z1, z2, z3, z4, z5, z6, z7, z8, z9, z10, z11⟩ := rowS_cells HCn.out.2.1
  have HFr1 : ∀ k, k < 12 → True := fun _ _ => trivial
  clear HFr1
  have HC5 := Lib.hid (show CopS w w.heap.size s (.slice A1 s.rn.cs.length c1) (.slice A2 s.pe.length c2) (.slice A3 s.fl.length c3) (.slice A4 s.ac.length c4) (snC s.st s.rn.size s.rn.base s.rn.en (.slice (some ⟨g1, 0, none⟩) s.rn.cs.length s.rn.cs.length) (.slice (some ⟨g2, 0, none⟩) s.pe.length s.pe.length) (.slice (some ⟨g3, 0, none⟩) s.fl.length s.fl.length) (.slice (some ⟨g4, 0, none⟩) s.ac.length s.ac.length) s.fin s.fi s.sent s.code) (((((w4.setCell ⟨w.heap.size + 1 + 1, 7, none⟩ (.slice (some ⟨g4, 0, none⟩) s.ac.length s.ac.length)).setCell ⟨w.heap.size + 1 + 1, 8, none⟩ (.int .i64 s.fin)).setCell ⟨w.heap.size + 1 + 1, 9, none⟩ (.int .i64 s.fi)).setCell ⟨w.heap.size + 1 + 1, 10, none⟩ (.int .i64 s.sent)).setCell ⟨w.heap.size + 1 + 1, 11, none⟩ (.int .i64 s.code)) from ((((HC4.out).set 8 (.int .i64 s.fin)).set 9 (.int .i64 s.fi)).set 10 (.int .i64 s.sent)).set 11 (.int .i64 s.code))
  have HOW0 := Lib.hid (show OwnSn (w4.setCell ⟨w.heap.size + 1 + 1, 7, none⟩ (.slice (some ⟨g4, 0, none⟩) s.ac.length s.ac.length)) (w.heap.size + 3) (.slice (some ⟨g1, 0, none⟩) s.rn.cs.length s.rn.cs.length) (.slice (some ⟨g2, 0, none⟩) s.pe.length s.pe.length) (.slice (some ⟨g3, 0, none⟩) s.fl.length s.fl.length) (.slice (some ⟨g4, 0, none⟩) s.ac.length s.ac.length) s from ⟨⟨HO1_4.out, HO2_4.out, HO3_4.out, HO4_4.out⟩, ⟨.inr (fun e => by have := HD1_2.out; have h9 : g1 = g2 := Option.some.inj e; omega), .inr (fun e => by have := HD1_3.out; have h9 : g1 = g3 := Option.some.inj e; omega), .inr (fun e => by have := HD1_4.out; have h9 : g1 = g4 := Option.some.inj e; omega)⟩, ⟨.inr (fun e => by have := HD2_3.out; have h9 : g2 = g3 := Option.some.inj e; omega), .inr (fun e => by have := HD2_4.out; have h9 : g2 = g4 := Option.some.inj e; omega)⟩, .inr (fun e => by have := HD3_4.out; have h9 : g3 = g4 := Option.some.inj e; omega)⟩)
  have HOW := Lib.hid (((((HOW0.out).apart (w.heap.size + 1 + 1) 8 (.int .i64 s.fin) (by omega)).apart (w.heap.size + 1 + 1) 9 (.int .i64 s.fi) (by omega)).apart (w.heap.size + 1 + 1) 10 (.int .i64 s.sent) (by omega)).apart (w.heap.size + 1 + 1) 11 (.int .i64 s.code) (by omega))
  clear HC4 HOW0 HO1_4 HO2_4 HO3_4 HO4_4
  go_upto_region 11 with fail
  clear HCn ff f1 a0 a1 a2 a3 a4 a5 a6 a7 a8 a9 a10 a11 p0 p1 p2 p3 p4 p5 p6 p7 p8 p9 p10 p11 z0 z1 z2 z3 z4 z5 z6 z7 z8 z9 z10 z11
  obtain ⟨W5, hW⟩ : ∃ W, (((((w4.setCell ⟨w.heap.size + 1 + 1, 7, none⟩ (.slice (some ⟨g4, 0, none⟩) s.ac.length s.ac.length)).setCell ⟨w.heap.size + 1 + 1, 8, none⟩ (.int .i64 s.fin)).setCell ⟨w.heap.size + 1 + 1, 9, none⟩ (.int .i64 s.fi)).setCell ⟨w.heap.size + 1 + 1, 10, none⟩ (.int .i64 s.sent)).setCell ⟨w.heap.size + 1 + 1, 11, none⟩ (.int .i64 s.code)) = W := ⟨_, rfl⟩
  rw [hW] at HC5 HOW
  rw [hW]
  clear hW HL1 HL2 HL3 HL4 HD1_2 HD1_3 HD1_4 HD2_3 HD2_4 HD3_4
  have f1 := HC5.out.free1
  obtain ⟨p0, p1, p2, p3, p4, p5, p6, p7, p8, p9, p10, p11⟩ := rowS_cells HC5.out.2.2.1
  obtain ⟨z0, z1, z2, z3, z4, z5, z6, z7, z8, z9, z10, z11⟩ := rowS_cells HC5.out.2.1
  go_wp2
  refine bodyPost_ret (results_cell_row rfl _ _ (w.heap.size + 1) _ _ _ _ rfl (put12_row HC5.out.2.1 s (.slice (some ⟨g1, 0, none⟩) s.rn.cs.length s.rn.cs.length) (.slice (some ⟨g2, 0, none⟩) s.pe.length s.pe.length) (.slice (some ⟨g3, 0, none⟩) s.fl.length s.fl.length) (.slice (some ⟨g4, 0, none⟩) s.ac.length s.ac.length)) Try.underlying27 rfl (by kernel_rfl)) rfl ?_
  exact ⟨g1, g2, g3, g4, rfl, (put12_own HOW.out (by omega) s (.slice (some ⟨g1, 0, none⟩) s.rn.cs.length s.rn.cs.length) (.slice (some ⟨g2, 0, none⟩) s.pe.length s.pe.length) (.slice (some ⟨g3, 0, none⟩) s.fl.length s.fl.length) (.slice (some ⟨g4, 0, none⟩) s.ac.length s.ac.length)).weaken (by omega), put12_below HC5.out.2.2.2.2 (Nat.le_succ _) s (.slice (some ⟨g1, 0, none⟩) s.rn.cs.length s.rn.cs.length) (.slice (some ⟨g2, 0, none⟩) s.pe.length s.pe.length) (.slice (some ⟨g3, 0, none⟩) s.fl.length s.fl.length) (.slice (some ⟨g4, 0, none⟩) s.ac.length s.ac.length)⟩
end Go.Proofs.Ytjohbfdifdjldaa
