/-
  Contracts and lemmas for the law on draining.
-/
import Derived.Test.YtdaoaedkjoknmaaGreatDrZ0
import Derived.Test.YtdaoaedkjoknmaaGreatDrZ6
import Derived.Test.YtdaoaedkjoknmaaGreatDrZ1
import Derived.Test.YtdaoaedkjoknmaaGreatDrZ21
import Derived.Test.YtdaoaedkjoknmaaGreatDrZ22
set_option maxRecDepth 1000000
set_option maxHeartbeats 8000000
namespace Go.Proofs.YtdaoaedkjoknmaaGreat
open Go.RowKit Go.Deep Go.Proofs.YtdaoaedkjoknmaaGreat.Num

theorem iaddL (l : List Rg) (r : Rg) (A : Option Addr) (cap B : Nat) (w : World) (hB : B ≤ w.heap.size) (hr : Rgs w B A l) (hn : l.length ≤ 2000000) :
    Calls Tryz.prog 31 #[.slice A l.length cap, rgV r] w fun e w' => ∃ v, e = .returned v ∧ OwnR w' w.heap.size v (addL l r) ∧ Below w.heap.size w w' := by
  unfold addL
  by_cases h : okR (-1) l ∧ fineR r
  · rw [if_pos h]; exact iadd_yes l r A cap B w hB hr hn h.1 h.2
  · rw [if_neg h]; exact iadd_no l r A cap B w hB hr (by omega) h
theorem iremL (l : List Rg) (r : Rg) (A : Option Addr) (cap B : Nat) (w : World) (hB : B ≤ w.heap.size) (hr : Rgs w B A l) (hn : l.length ≤ 2000000) :
    Calls Tryz.prog 102 #[.slice A l.length cap, rgV r] w fun e w' => ∃ v, e = .returned v ∧ OwnR w' w.heap.size v (remL l r) ∧ Below w.heap.size w w' := by
  unfold remL
  by_cases h : okR (-1) l ∧ fineR r
  · rw [if_pos h]; exact irem_yes l r A cap B w hB hr hn h.1 h.2
  · rw [if_neg h]; exact irem_no l r A cap B w hB hr (by omega) h
theorem OwnP.rgq {w : World} {B : Nat} {A : Option Addr} {c : Nat} {l : List Rg} (h : OwnP w B (.slice A l.length c) l) : Rgs w w.heap.size A l := by
  obtain ⟨A', c', e, _, k⟩ := h.frs
  injection e with e1 e2 e3
  subst e1
  exact k
structure MvI (w : World) (g k1 k2 : Nat) (cs : Array Value) (t : TypeId) (B : Nat) (v0 u0 : Value) (W : World) (v u : Value) (l m : List Rg) : Prop where
  row : ∃ cs', W.heap[g]? = some (.cells cs' t (0, 0)) ∧ cs'[k1]? = some v ∧ cs'[k2]? = some u ∧ ∀ i, i ≠ k1 → i ≠ k2 → cs'[i]? = cs[i]?
  ov : OwnP W B v l
  ou : OwnP W B u m
  ap : Apart v u
  iv : v = v0 ∨ ∀ k, v.ownBlock = some k → g < k
  iu : u = u0 ∨ ∀ k, u.ownBlock = some k → g < k
  nv : v.ownBlock ≠ some g
  nu : u.ownBlock ≠ some g
  bl : Below g w W
  lt : g < W.heap.size
theorem MvI.c1 {w : World} {g k1 k2 : Nat} {cs : Array Value} {t : TypeId} {B : Nat} {v0 u0 : Value} {W : World} {v u : Value} {l m : List Rg} (h : MvI w g k1 k2 cs t B v0 u0 W v u l m) : W.cell? ⟨g, k1, none⟩ = some v := by
  obtain ⟨cs', x, h1, _⟩ := h.row
  exact (cell_of_row W g k1 _ _ _ x).trans h1
theorem MvI.c2 {w : World} {g k1 k2 : Nat} {cs : Array Value} {t : TypeId} {B : Nat} {v0 u0 : Value} {W : World} {v u : Value} {l m : List Rg} (h : MvI w g k1 k2 cs t B v0 u0 W v u l m) : W.cell? ⟨g, k2, none⟩ = some u := by
  obtain ⟨cs', x, _, h2, _⟩ := h.row
  exact (cell_of_row W g k2 _ _ _ x).trans h2
theorem MvI.free {w : World} {g k1 k2 : Nat} {cs : Array Value} {t : TypeId} {B : Nat} {v0 u0 : Value} {W : World} {v u : Value} {l m : List Rg} (h : MvI w g k1 k2 cs t B v0 u0 W v u l m) (k : Nat) : W.frozen? ⟨g, k, none⟩ = false := by
  obtain ⟨cs', x, _⟩ := h.row
  simp [World.frozen?, x]
theorem MvI.next {w : World} {g k1 k2 : Nat} {cs : Array Value} {t : TypeId} {B : Nat} {v0 u0 : Value} {W W' : World} {v u : Value} {l m : List Rg} (h : MvI w g k1 k2 cs t B v0 u0 W v u l m) (hb : Below W.heap.size W W') : MvI w g k1 k2 cs t B v0 u0 W' v u l m := by
  obtain ⟨cs', x, h1⟩ := h.row
  exact ⟨⟨cs', (hb.block g h.lt).trans x, h1⟩, h.ov.later hb, h.ou.later hb, h.ap, h.iv, h.iu, h.nv, h.nu, h.bl.trans (hb.mono (Nat.le_of_lt h.lt)), Nat.lt_of_lt_of_le h.lt hb.size⟩
theorem MvI.set1 {w : World} {g k1 k2 : Nat} {cs : Array Value} {t : TypeId} {B : Nat} {v0 u0 : Value} {W W' : World} {v u : Value} {l m : List Rg} (h : MvI w g k1 k2 cs t B v0 u0 W v u l m) (hk : k1 ≠ k2) (hB : B ≤ W.heap.size) (hb : Below W.heap.size W W') {v' : Value} {l' : List Rg} (ho : OwnP W' W.heap.size v' l') : MvI w g k1 k2 cs t B v0 u0 (W'.setCell ⟨g, k1, none⟩ v') v' u l' m := by
  have h' := h.next hb
  obtain ⟨cs', x, h1, h2, h3⟩ := h'.row
  have hg : ∀ k, v'.ownBlock = some k → g < k := fun k hk => Nat.lt_of_lt_of_le h.lt (ho.lo k hk)
  have hn : v'.ownBlock ≠ some g := fun e => Nat.lt_irrefl g (hg g e)
  have hs : k1 < cs'.size := (Array.getElem?_eq_some_iff.1 h1).1
  refine ⟨⟨_, row_put x k1 v', ?_, ?_, fun i a b => ?_⟩, (ho.put g k1 v' hn).weaken hB, h'.ou.put g k1 v' h.nu, ?_, .inr hg, h.iu, hn, h.nu, h'.bl.setCell (p := ⟨g, k1, none⟩) (Nat.le_refl _) _, by simpa [World.setCell] using h'.lt⟩
  · rw [Array.getElem?_setIfInBounds, if_pos rfl, if_pos hs]
  · rw [Array.getElem?_setIfInBounds, if_neg hk]; exact h2
  · rw [Array.getElem?_setIfInBounds, if_neg (fun e => a e.symm)]; exact h3 i a b
  · exact (apart_new (fun k hk => (h.ou.lt k hk).2) ho.lo).symm
theorem MvI.set2 {w : World} {g k1 k2 : Nat} {cs : Array Value} {t : TypeId} {B : Nat} {v0 u0 : Value} {W W' : World} {v u : Value} {l m : List Rg} (h : MvI w g k1 k2 cs t B v0 u0 W v u l m) (hk : k1 ≠ k2) (hB : B ≤ W.heap.size) (hb : Below W.heap.size W W') {u' : Value} {m' : List Rg} (ho : OwnP W' W.heap.size u' m') : MvI w g k1 k2 cs t B v0 u0 (W'.setCell ⟨g, k2, none⟩ u') v u' l m' := by
  have h' := h.next hb
  obtain ⟨cs', x, h1, h2, h3⟩ := h'.row
  have hg : ∀ k, u'.ownBlock = some k → g < k := fun k hk => Nat.lt_of_lt_of_le h.lt (ho.lo k hk)
  have hn : u'.ownBlock ≠ some g := fun e => Nat.lt_irrefl g (hg g e)
  have hs : k2 < cs'.size := (Array.getElem?_eq_some_iff.1 h2).1
  refine ⟨⟨_, row_put x k2 u', ?_, ?_, fun i a b => ?_⟩, h'.ov.put g k2 u' h.nv, (ho.put g k2 u' hn).weaken hB, ?_, h.iv, .inr hg, h.nv, hn, h'.bl.setCell (p := ⟨g, k2, none⟩) (Nat.le_refl _) _, by simpa [World.setCell] using h'.lt⟩
  · rw [Array.getElem?_setIfInBounds, if_neg (fun e => hk e.symm)]; exact h1
  · rw [Array.getElem?_setIfInBounds, if_pos rfl, if_pos hs]
  · rw [Array.getElem?_setIfInBounds, if_neg (fun e => b e.symm)]; exact h3 i a b
  · exact apart_new (fun k hk => (h.ov.lt k hk).2) ho.lo
theorem box_later {w w' : World} {g : Nat} {x : Rg} (h : Box w g x) (hb : Below w.heap.size w w') : Box w' g x := (hb.block g (Array.getElem?_eq_some_iff.1 h).1).trans h
theorem comR_one (q : Rg) (l : List Rg) : (comR l [q]).length ≤ l.length := by
  induction l with
  | nil => exact Nat.le_refl _
  | cons x l ih =>
    have e : comR (x :: l) [q] = [q].flatMap (bothR x) ++ comR l [q] := rfl
    have h1 : ([q].flatMap (bothR x)).length ≤ 1 := by
      show (bothR x q ++ []).length ≤ 1
      rw [List.append_nil]
      unfold bothR
      split
      · exact Nat.le_refl _
      · exact Nat.zero_le _
    rw [e, List.length_append, List.length_cons]
    omega
def comQ (l : List Rg) (q : Rg) : List Rg := if okR (-1) [q] then comR l [q] else []
theorem imove (g k1 k2 : Nat) (hk : k1 ≠ k2) (cs : Array Value) (t : TypeId) (l m : List Rg) (q : Rg) (A A' : Option Addr) (c c' B : Nat) (w : World) (hB : B ≤ w.heap.size)
    (hi : MvI w g k1 k2 cs t B (.slice A l.length c) (.slice A' m.length c') w (.slice A l.length c) (.slice A' m.length c') l m) (hl : okR (-1) l) (hc : l.length ≤ c) (hn : l.length ≤ 300000 ∧ m.length ≤ 300000) :
    Calls Tryz.prog 43 #[.pointer (some ⟨g, k1, none⟩), .pointer (some ⟨g, k2, none⟩), rgV q] w fun e w' => e = .returned (.tuple #[]) ∧ ∃ v u, MvI w g k1 k2 cs t B (.slice A l.length c) (.slice A' m.length c') w' v u (remLs l (comQ l q)) (addLs m (comQ l q)) := by
  have HM := LH (hi.next ((Below.refl _ _).alloc (Nat.le_refl _) (.cells #[.int .i64 q.1, .int .i64 q.2] 59)))
  have HBX := LH (Box.new w q)
  have HN := LH hn
  have HCO : Hid (∀ W, B ≤ W.heap.size → MvI w g k1 k2 cs t B (.slice A l.length c) (.slice A' m.length c') W (.slice A l.length c) (.slice A' m.length c') l m → Calls Tryz.prog 101 #[.slice A l.length c, .slice (some ⟨W.heap.size, 0, none⟩) 1 1] (W.alloc (.cells #[.int .i64 q.1, .int .i64 q.2] 59)).drew fun e w' => ∃ v, e = .returned v ∧ OwnR w' W.heap.size v (comQ l q) ∧ Below W.heap.size W w') := LH fun W hBW h => by
    have hz : (W.alloc (.cells #[.int .i64 q.1, .int .i64 q.2] 59)).heap.size = W.heap.size + 1 := by simp
    have hb9 := (Below.refl W.heap.size W).alloc (Nat.le_refl _) (.cells #[.int .i64 q.1, .int .i64 q.2] 59)
    have hr1 : Rgs (W.alloc (.cells #[.int .i64 q.1, .int .i64 q.2] 59)) (W.heap.size + 1) (some ⟨W.heap.size, 0, none⟩) [q] := rgs_one W q _
    have hr := (h.ov.rgq.below (Nat.le_refl _) hb9).up (Nat.le_succ _)
    generalize W.alloc (.cells #[.int .i64 q.1, .int .i64 q.2] 59) = W1 at *
    have hbd : Below W1.heap.size W1 W1.drew := (Below.refl _ _).drew
    have hr2 := hr1.below (Nat.le_of_eq hz.symm) hbd
    have hr3 := hr.below (Nat.le_of_eq hz.symm) hbd
    have hz2 : W.heap.size + 1 ≤ W1.drew.heap.size := Nat.le_trans (Nat.le_of_eq hz.symm) hbd.size
    have fin : ∀ (C : List Rg) e w', (∃ v, e = Ending.returned v ∧ OwnR w' W1.drew.heap.size v C ∧ Below W1.drew.heap.size W1.drew w') → ∃ v, e = .returned v ∧ OwnR w' W.heap.size v C ∧ Below W.heap.size W w' := fun C e w' ⟨v, e1, h8, h9⟩ => ⟨v, e1, own_weaken h8 (by omega), hb9.trans ((hbd.mono (by omega)).trans (h9.mono (by omega)))⟩
    by_cases hq : okR (-1) [q]
    · rw [show comQ l q = comR l [q] from if_pos hq]
      exact (icom_yes l [q] A (some ⟨W.heap.size, 0, none⟩) c 1 (W.heap.size + 1) _ hz2 hr3 hr2 (by have := HN.out.1; simp; omega) hc (Nat.le_refl _) hl hq).mono (fin _)
    · rw [show comQ l q = [] from if_neg hq]
      exact (icom_no l [q] A (some ⟨W.heap.size, 0, none⟩) c 1 (W.heap.size + 1) _ hz2 hr3 hr2 (by have := HN.out.1; simp; omega) (fun k => hq k.2)).mono (fin _)
  have HCL : Hid ((comQ l q).length ≤ 300001) := LH (by
    unfold comQ
    split
    · have := comR_one q l
      have := hn.1
      omega
    · exact Nat.zero_le _)
  have HKC : Hid (okR (-1) (comQ l q)) := LH (by
    unfold comQ
    split
    · rename_i h; exact comR_ok [q] h l (-1) (Int.le_refl _) hl
    · trivial)
  have HLE := LH hi.lt
  have hBw := hB
  clear hi hl hc hn hB
  generalize comQ l q = C at *
  go_enter Tryz.func43, Tryz.ntmps43
  go_upto_region 1 with fail
  have hz1 : (w.alloc (.cells #[.int .i64 q.1, .int .i64 q.2] 59)).heap.size = w.heap.size + 1 := by simp
  have HW1 : Hid (w.heap.size < (w.alloc (.cells #[.int .i64 q.1, .int .i64 q.2] 59)).heap.size) := LH (by omega)
  have HZ1 : Hid (B ≤ (w.alloc (.cells #[.int .i64 q.1, .int .i64 q.2] 59)).heap.size) := LH (by omega)
  clear hz1
  generalize w.alloc (.cells #[.int .i64 q.1, .int .i64 q.2] 59) = w1 at *
  have hS1 := HM.out.c1
  obtain ⟨b0, b1⟩ := HBX.out.cells
  have HS0 : Hid (w1.drew.cell? ⟨g, k1, none⟩ = some (.slice A l.length c) ∧ w1.drew.cell? ⟨w.heap.size, 0, none⟩ = some (.int .i64 q.1) ∧ w1.drew.cell? ⟨w.heap.size, 1, none⟩ = some (.int .i64 q.2)) := LH ⟨hS1, b0, b1⟩
  have HMA := LH ((HM.out.next ((Below.refl _ _).alloc (Nat.le_refl _) (.cells #[.int .i64 q.1, .int .i64 q.2] 59))).next (Below.refl _ _).drew)
  have HXA := LH (box_later (box_later HBX.out ((Below.refl _ _).alloc (Nat.le_refl _) (.cells #[.int .i64 q.1, .int .i64 q.2] 59))) (Below.refl _ _).drew)
  have HSB : Hid ((w1.alloc (.cells #[.int .i64 q.1, .int .i64 q.2] 59)).drew.cell? ⟨g, k1, none⟩ = some (.slice A l.length c) ∧ (w1.alloc (.cells #[.int .i64 q.1, .int .i64 q.2] 59)).drew.cell? ⟨w.heap.size, 0, none⟩ = some (.int .i64 q.1) ∧ (w1.alloc (.cells #[.int .i64 q.1, .int .i64 q.2] 59)).drew.cell? ⟨w.heap.size, 1, none⟩ = some (.int .i64 q.2)) := LH ⟨HMA.out.c1, HXA.out.cells⟩
  go_region_held3 (fun W => W.cell? ⟨g, k1, none⟩ = some (.slice A l.length c) ∧ W.cell? ⟨w.heap.size, 0, none⟩ = some (.int .i64 q.1) ∧ W.cell? ⟨w.heap.size, 1, none⟩ = some (.int .i64 q.2)) (first | with_reducible exact HS0.out | with_reducible exact HSB.out | with_reducible exact HSA.out) (first | (go_at_call 101; refine (HCO.out w1 HZ1.out HM.out).mono ?_; rintro e w3 ⟨vc, rfl, ho, hb⟩; have HM3 := LH (HM.out.next hb); have HVC := LH (ho.p.weaken HM.out.lt); obtain ⟨Ac, cc, rfl, _, _⟩ := ho.p.frs; have hbx := box_later HBX.out hb; have HSA := LH (show w3.cell? ⟨g, k1, none⟩ = some (.slice A l.length c) ∧ w3.cell? ⟨w.heap.size, 0, none⟩ = some (.int .i64 q.1) ∧ w3.cell? ⟨w.heap.size, 1, none⟩ = some (.int .i64 q.2) from ⟨HM3.out.c1, hbx.cells⟩); clear ho hb hbx))
  clear HMA HXA HSB HS0 HSA HCO hS1 b0 b1 HM HBX HW1 HZ1 HLE
  go_wp2
  go_loopw [16] (fun i wr => ∃ (j : Nat) (v u : Value), j ≤ C.length ∧ i = .int .i64 j ∧ MvI w g k1 k2 cs t B (.slice A l.length c) (.slice A' m.length c') wr v u (remLs l (C.take j)) (addLs m (C.take j)) ∧ OwnP wr (g + 1) (.slice Ac C.length cc) C) (fun i _ => C.length - (intOf i).toNat)
  case atStart => exact ⟨0, _, _, Nat.zero_le _, rfl, HM3.out, HVC.out⟩
  case round =>
    obtain ⟨j, v, u, hj, rfl, hm, hvc⟩ := hrel
    have HM := LH hm
    have HVC := LH hvc
    have hcl := HCL.out
    clear hm hvc HM3
    by_cases hlt : j < C.length
    · obtain ⟨b, off, hA, hbB, y1, y2⟩ := HVC.out.rgq j hlt
      subst hA
      have HX : Hid (remLs l (C.take (j + 1)) = remL (remLs l (C.take j)) C[j] ∧ addLs m (C.take (j + 1)) = addL (addLs m (C.take j)) C[j]) := LH ⟨remLs_step l C j hlt, addLs_step m C j hlt⟩
      have HLL : Hid ((remLs l (C.take j)).length ≤ 2000000 ∧ (addLs m (C.take j)).length ≤ 2000000) := LH (by
        have h1 := remLs_len (C.take j) l
        have h2 := addLs_len (C.take j) m
        have h3 := HCL.out
        have h4 := HN.out
        rw [List.length_take] at h1 h2
        omega)
      generalize C[j] = x at *
      generalize remLs l (C.take j) = Lj at *
      generalize addLs m (C.take j) = Mj at *
      have hj0 : (0 : Int) ≤ (j : Int) := by omega
      have hj1 : (j : Int) < (C.length : Int) := by omega
      obtain ⟨Av, cv, hv, _, _⟩ := HM.out.ov.frs
      subst hv
      obtain ⟨Au, cu, hu, _, _⟩ := HM.out.ou.frs
      subst hu
      have HRM : Hid (∀ W, Rgs W W.heap.size Av Lj → Calls Tryz.prog 102 #[.slice Av Lj.length cv, rgV x] W fun e w' => ∃ v, e = .returned v ∧ OwnR w' W.heap.size v (remL Lj x) ∧ Below W.heap.size W w') := LH fun W h => iremL Lj x Av cv W.heap.size W (Nat.le_refl _) h HLL.out.1
      have HAD : Hid (∀ W, Rgs W W.heap.size Au Mj → Calls Tryz.prog 31 #[.slice Au Mj.length cu, rgV x] W fun e w' => ∃ v, e = .returned v ∧ OwnR w' W.heap.size v (addL Mj x) ∧ Below W.heap.size W w') := LH fun W h => iaddL Mj x Au cu W.heap.size W (Nat.le_refl _) h HLL.out.2
      have HBX := LH (Box.new wr x)
      have HGX : Hid (wr.heap.size ≠ g) := LH (by have := HM.out.lt; omega)
      have HM := LH (HM.out.next ((Below.refl _ _).alloc (Nat.le_refl _) (.cells #[.int .i64 x.1, .int .i64 x.2] 59)))
      have HVC := LH (HVC.out.later ((Below.refl _ _).alloc (Nat.le_refl _) (.cells #[.int .i64 x.1, .int .i64 x.2] 59)))
      go_upto_region 4 with fail
      clear y1 y2 hj0 hj1
      generalize wr.alloc (.cells #[.int .i64 x.1, .int .i64 x.2] 59) = w5 at *
      generalize wr.heap.size = gx at *
      go_cut [] (fun wx => ∃ v', MvI w g k1 k2 cs t B (.slice A l.length c) (.slice A' m.length c') wx v' (.slice Au Mj.length cu) (remL Lj x) Mj ∧ OwnP wx (g + 1) (.slice (some ⟨b, off, none⟩) C.length cc) C ∧ Box wx gx x)
      case first =>
        have HMd := LH (HM.out.next (Below.refl _ _).drew)
        have HXd := LH (box_later HBX.out (Below.refl _ _).drew)
        have hS1 := HM.out.c1
        obtain ⟨b0, b1⟩ := HBX.out.cells
        go_region_with (first | (go_at_call 102; refine (HRM.out _ HMd.out.ov.rgq).mono ?_; rintro e w6 ⟨v', rfl, ho, hb⟩; obtain ⟨A9, e9, rfl, _, _⟩ := ho.p.frs; have HO := LH ho.p; have HB := LH hb; have HX6 := LH (box_later HXd.out hb); have qf := (HMd.out.next hb).free k1; have qc := (HMd.out.next hb).c1; clear ho hb))
        all_goals (
          go_wp2
          go_meet
          exact ⟨_, HMd.out.set1 hk (Nat.le_trans hBw HMd.out.bl.size) HB.out HO.out, (HVC.out.later ((Below.refl w5.heap.size w5).drew.trans HB.out)).apart g k1 _ (Nat.lt_succ_self g), (Below.heap_setCell w6 ⟨g, k1, none⟩ _ gx HGX.out).trans HX6.out⟩)
      case rest =>
      obtain ⟨v', hm, hvc, hbx⟩ := hcut
      have HM := LH hm
      have HVC := LH hvc
      have HBX := LH hbx
      clear hm hvc hbx
      obtain ⟨A6, e6, hv6, _, _⟩ := HM.out.ov.frs
      subst hv6
      go_upto_region 5 with fail
      have HMd := LH (HM.out.next (Below.refl _ _).drew)
      have hS1 := HM.out.c2
      obtain ⟨b0, b1⟩ := HBX.out.cells
      go_region_with (first | (go_at_call 31; refine (HAD.out _ HMd.out.ou.rgq).mono ?_; rintro e w8 ⟨v', rfl, ho, hb⟩; obtain ⟨A9, e9, rfl, _, _⟩ := ho.p.frs; have HO := LH ho.p; have HB := LH hb; have qf := (HMd.out.next hb).free k2; have qc := (HMd.out.next hb).c2; clear ho hb))
      all_goals (
        have HM := LH (HMd.out.set2 hk (Nat.le_trans hBw HMd.out.bl.size) HB.out HO.out)
        have HVC := LH ((HVC.out.later ((Below.refl _ _).drew.trans HB.out)).apart g k2 (.slice A9 (addL Mj x).length e9) (Nat.lt_succ_self g))
        clear qf qc hS1 b0 b1 HMd HB HO HAD
        generalize w8.setCell ⟨g, k2, none⟩ (.slice A9 (addL Mj x).length e9) = w9 at *
        go_wp2
        go_roundw)
      all_goals first | exact ⟨j + 1, _, _, hlt, by go_num, by rw [HX.out.1, HX.out.2]; exact HM.out, HVC.out⟩ | (simp [intOf]; omega)
    · obtain rfl : j = C.length := by omega
      rw [List.take_length] at HM
      go_wp2
      refine bodyPost_end (results_none rfl _ _ _) rfl ?_
      exact ⟨rfl, _, _, HM.out⟩
end Go.Proofs.YtdaoaedkjoknmaaGreat
