/-
  Contracts and lemmas for the law on draining.
-/
import Derived.Test.YtdaoaedkjoknmaaGreatDrZ0
import Derived.Test.YtdaoaedkjoknmaaGreatDrZ7
import Derived.Test.YtdaoaedkjoknmaaGreatDrZ6
import Derived.RangeFuncNested
import Derived.RangeFuncBound
import Derived.RangeFuncCalls
import Derived.RangeFuncLeaves
import Derived.Shelf.Abstract
import Derived.Shelf.RegionOpen
import Derived.OwnWalkIn
import Derived.TacticsInMore
import Derived.LoopNIn
import Derived.LoopIn
import Derived.Test.YtdaoaedkjoknmaaGreatDrZ1
import Derived.Test.YtdaoaedkjoknmaaGreatDrZ8
import Derived.Test.YtdaoaedkjoknmaaGreatDrZ10
set_option maxRecDepth 1000000
set_option maxHeartbeats 8000000
namespace Go.Proofs.YtdaoaedkjoknmaaGreat
open Go.RowKit Go.Deep Go.Proofs.YtdaoaedkjoknmaaGreat.Num

def OwnT (w : World) (base : Nat) (v : Value) (l : List Rg) : Prop := ∃ A cap, v = .slice A l.length cap ∧ l.length ≤ cap ∧ ∀ j (hj : j < l.length), ∃ g off, A = some ⟨g, off, none⟩ ∧ base ≤ g ∧ g < w.heap.size ∧
  w.cell? ⟨g, off + j * 2, none⟩ = some (.int .i64 l[j].1) ∧ w.cell? ⟨g, off + j * 2 + 1, none⟩ = some (.int .i64 l[j].2) ∧ ∀ k, w.frozen? ⟨g, k, none⟩ = false
theorem OwnR.any {w : World} {base : Nat} {v : Value} {l : List Rg} (h : OwnR w base v l) : OwnT w base v l := by
  have h0 := h
  obtain ⟨_, h⟩ := h
  rcases h with ⟨rfl, hn⟩ | ⟨g, cap, cur, rfl, hb, hg, hle, _, _, _⟩
  · obtain rfl : l = [] := List.eq_nil_of_length_eq_zero hn
    exact ⟨none, 0, rfl, by simp, fun j hj => by cases hj⟩
  · have hr := OwnR.row h0
    refine ⟨_, cap, rfl, hle, fun j hj => ⟨g, 0, rfl, hb, hr.ge.2, ?_, ?_, hr.free⟩⟩
    · rw [Nat.zero_add]; exact (hr.cells j hj).1
    · rw [Nat.zero_add]; exact (hr.cells j hj).2
theorem OwnT.same {w w' : World} {base : Nat} {v : Value} {l : List Rg} (h : OwnT w base v l) (hs : w.heap.size ≤ w'.heap.size) (hb : ∀ k, base ≤ k → k < w.heap.size → w'.heap[k]? = w.heap[k]?) : OwnT w' base v l := by
  obtain ⟨A, cap, rfl, hc, hh⟩ := h
  refine ⟨A, cap, rfl, hc, fun j hj => ?_⟩
  obtain ⟨g, off, h1, h2, h3, h4, h5, h6⟩ := hh j hj
  exact ⟨g, off, h1, h2, by omega, (World.cell?_of_block (hb g h2 h3)).trans h4, (World.cell?_of_block (hb g h2 h3)).trans h5, fun k => (World.frozen?_of_block (hb g h2 h3)).trans (h6 k)⟩
theorem OwnT.later {w w' : World} {base : Nat} {v : Value} {l : List Rg} (h : OwnT w base v l) (hb : Below w.heap.size w w') : OwnT w' base v l := h.same hb.size fun k _ hk => hb.block k hk
theorem OwnT.only {w w' : World} {base g : Nat} {v : Value} {l : List Rg} (h : OwnT w base v l) (hg : w.grownBy w' (some g)) (hb : g < base) : OwnT w' base v l :=
  h.same hg.size fun k h1 h2 => hg.block k h2 (by intro e; injection e with e; omega)
theorem OwnT.weaken {w : World} {base base' : Nat} {v : Value} {l : List Rg} (h : OwnT w base v l) (hb : base' ≤ base) : OwnT w base' v l := by
  obtain ⟨A, cap, rfl, hc, hh⟩ := h
  refine ⟨A, cap, rfl, hc, fun j hj => ?_⟩
  obtain ⟨g, off, h1, h2, h3, h4⟩ := hh j hj
  exact ⟨g, off, h1, by omega, h3, h4⟩
def RBox (w : World) (g : Nat) (x : Rg) : Prop := RCell w g 0 x ∧ g < w.heap.size
structure SRow (w : World) (base g off : Nat) (l : List Rg) : Prop where
  ge : base ≤ g ∧ g < w.heap.size
  cells : ∀ j (hj : j < l.length), w.cell? ⟨g, off + j * 2, none⟩ = some (.int .i64 l[j].1) ∧ w.cell? ⟨g, off + j * 2 + 1, none⟩ = some (.int .i64 l[j].2)
  free : ∀ k, w.frozen? ⟨g, k, none⟩ = false

theorem results_cell3 {P : Program} {fn : Func} {p u v : Tmp} {ty : TypeId} (h : fn.results = #[.cell p ty, .tmp u, .tmp v]) (tmps : Array Value) (w : World) (g : Nat) (t : TypeId) (cs : Array Value) (fr : Nat × Nat) (d : TypeDesc)
    (hp : tmps.getD p undef = .pointer (some ⟨g, 0, none⟩)) (hg : w.heap[g]? = some (.cells cs t fr))
    (hu : P.underlying ty = some d) (hd : (match d with | .struct _ | .array _ _ => true | _ => false) = true) (hi : (P.info? ty).map (·.size) = some cs.size) :
    (results fn tmps).run P w = .ok (.tuple #[.agg cs, tmps.getD u undef, tmps.getD v undef]) w := by
  have hp' : tmps[p]?.getD undef = .pointer (some ⟨g, 0, none⟩) := by simpa using hp
  simp [results, h, hp', asAddr, run_loadVar_row w g t ty cs fr d hg hu hd hi]


namespace Num
theorem remR_all (x : Rg) (l : List Rg) (p : Int) (h : okR p (x :: l)) : remR x (x :: l) = l := by
  have e : remR x (x :: l) = cutR x x ++ remR x l := rfl
  rw [e, remR_above x h.2.1 l x.2 h.2.2.2 (Int.le_refl _)]
  unfold cutR
  rw [if_neg (by omega), if_neg (by omega)]
  rfl
theorem remR_some (x : Rg) (m : Int) (l : List Rg) (p : Int) (h : okR p (x :: l)) (h1 : x.1 < m) (h2 : m < x.2) : remR (x.1, m) (x :: l) = (m, x.2) :: l := by
  have e : remR (x.1, m) (x :: l) = cutR (x.1, m) x ++ remR (x.1, m) l := rfl
  rw [e, remR_above (x.1, m) h1 l x.2 h.2.2.2 (by show m ≤ x.2; omega)]
  unfold cutR
  rw [if_neg (by show ¬ x.1 < min x.2 x.1; omega), if_pos (by show max x.1 m < x.2; omega)]
  show [(max x.1 m, x.2)] ++ l = _
  rw [show max x.1 m = m from by omega]
  rfl
end Num

theorem ipop_no (l : List Rg) (most : Int) (A : Option Addr) (cap B : Nat) (w : World) (hB : B ≤ w.heap.size) (hr : Rgs w B A l) (hn : l.length ≤ 1000000000) (hbad : ¬ (okR (-1) l ∧ l ≠ [] ∧ 1 ≤ most)) :
    Calls Tryz.prog 97 #[.slice A l.length cap, .int .i64 most] w fun e w' => ∃ v, e = .returned (.tuple #[.agg #[.int .i64 0, .int .i64 0], v, .bool false]) ∧ OwnT w' w.heap.size v l ∧ Below w.heap.size w w' := by
  have hr1 : Rgs (w.alloc (.cells #[.int .i64 0, .int .i64 0] 59)) B A l := hr.keep fun k hk => heap_alloc_old w _ (by omega)
  have hbx := (Below.refl w.heap.size w).alloc (Nat.le_refl _) (.cells #[.int .i64 0, .int .i64 0] 59)
  have hbox := Box.new w (0, 0)
  have hsz : (w.alloc (.cells #[.int .i64 0, .int .i64 0] 59)).heap.size = w.heap.size + 1 := by simp
  generalize hw1 : w.alloc (.cells #[.int .i64 0, .int .i64 0] 59) = w1 at *
  have HC := LH (iclone l A cap B w1 (by omega) hr1 hn)
  have HR := LH hr1
  have HBX := LH hbx
  have HBOX := LH hbox
  clear hr1 hr hbx hbox
  go_enter Tryz.func97, Tryz.ntmps97
  go_wp2_with fail
  refine HC.out.mono ?_
  rintro e w2 ⟨v, rfl, ho2, hb2⟩
  have HB2 := LH hb2
  have HO2 := LH ho2
  have hw2 : w1.heap.size ≤ w2.heap.size := hb2.size
  have HX2 : Hid (Box w2 w.heap.size (0, 0)) := LH ((hb2.block _ (by omega)).trans HBOX.out)
  clear ho2 hb2
  by_cases h0 : l = []
  · subst h0
    obtain ⟨q1, q2⟩ := HX2.out.cells
    have f0 := HX2.out.free
    clear hbad
    go_wp2
    refine bodyPost_ret (results_cell3 rfl _ _ w.heap.size _ _ _ _ rfl (Box.set1 (Box.set0 HX2.out 0) 0) Tryz.underlying59 rfl (by kernel_rfl)) rfl ?_
    exact ⟨v, rfl, OwnR.any (own_weaken ((HO2.out.only (box_only 0 _) (by omega)).only (box_only 1 _) (by omega)) (by omega)), ((HBX.out.trans (HB2.out.mono (by omega))).setCell (Nat.le_refl _) _).setCell (Nat.le_refl _) _⟩
  · have hd0 : ((l.length : Int) == 0) = false := by simpa using h0
    by_cases hm : most < 1
    · have hd1 : decide (most < 1) = true := decide_eq_true hm
      obtain ⟨q1, q2⟩ := HX2.out.cells
      have f0 := HX2.out.free
      clear hbad h0 hm
      go_wp2
      refine bodyPost_ret (results_cell3 rfl _ _ w.heap.size _ _ _ _ rfl (Box.set1 (Box.set0 HX2.out 0) 0) Tryz.underlying59 rfl (by kernel_rfl)) rfl ?_
      exact ⟨v, rfl, OwnR.any (own_weaken ((HO2.out.only (box_only 0 _) (by omega)).only (box_only 1 _) (by omega)) (by omega)), ((HBX.out.trans (HB2.out.mono (by omega))).setCell (Nat.le_refl _) _).setCell (Nat.le_refl _) _⟩
    · have hd1 : decide (most < 1) = false := decide_eq_false hm
      have hk : ¬ okR (-1) l := fun hk => hbad ⟨hk, h0, by omega⟩
      have HI := LH (iisr l A cap B w2 (by omega) (HR.out.below (by omega) HB2.out) hn)
      rw [decide_eq_false hk] at HI
      clear hbad h0 hm hk
      go_wp2_with fail
      refine HI.out.mono ?_
      rintro e w3 ⟨rfl, hb3⟩
      have HX3 : Hid (Box w3 w.heap.size (0, 0)) := LH ((hb3.block _ (by omega)).trans HX2.out)
      have HO3 := LH (HO2.out.later hb3)
      have HB3 := LH (HB2.out.trans (hb3.mono hw2))
      clear hb3
      obtain ⟨q1, q2⟩ := HX3.out.cells
      have f0 := HX3.out.free
      go_wp2
      refine bodyPost_ret (results_cell3 rfl _ _ w.heap.size _ _ _ _ rfl (Box.set1 (Box.set0 HX3.out 0) 0) Tryz.underlying59 rfl (by kernel_rfl)) rfl ?_
      exact ⟨v, rfl, OwnR.any (own_weaken ((HO3.out.only (box_only 0 _) (by omega)).only (box_only 1 _) (by omega)) (by omega)), ((HBX.out.trans (HB3.out.mono (by omega))).setCell (Nat.le_refl _) _).setCell (Nat.le_refl _) _⟩

theorem Box.drew {w : World} {g : Nat} {x : Rg} (h : Box w g x) : Box w.drew g x := h
theorem RowR.tail {w : World} {base g n cap c : Nat} {x : Rg} {l : List Rg} (h : RowR w base g n cap (x :: l)) (hc : l.length ≤ c) : OwnT w base (.slice (some ⟨g, 2, none⟩) l.length c) l := by
  refine ⟨_, c, rfl, hc, fun j hj => ⟨g, 2, rfl, h.ge.1, h.ge.2, ?_, ?_, h.free⟩⟩
  · have := (h.cells (j + 1) (by simp; omega)).1
    rw [show (j + 1) * 2 = 2 + j * 2 from by omega] at this
    simpa using this
  · have := (h.cells (j + 1) (by simp; omega)).2
    rw [show (j + 1) * 2 + 1 = 2 + j * 2 + 1 from by omega] at this
    simpa using this

theorem ipop_yes (x : Rg) (l : List Rg) (most : Int) (A : Option Addr) (cap B : Nat) (w : World) (hB : B ≤ w.heap.size) (hr : Rgs w B A (x :: l)) (hn : (x :: l).length ≤ 1000000000) (hk : okR (-1) (x :: l)) (hm : 1 ≤ most) :
    Calls Tryz.prog 97 #[.slice A (x :: l).length cap, .int .i64 most] w fun e w' => ∃ v, e = .returned (.tuple #[.agg #[.int .i64 (topR x most).1, .int .i64 (topR x most).2], v, .bool true]) ∧ OwnT w' w.heap.size v (remR (topR x most) (x :: l)) ∧ Below w.heap.size w w' := by
  have hr1 : Rgs (w.alloc (.cells #[.int .i64 0, .int .i64 0] 59)) B A (x :: l) := hr.keep fun k hk => heap_alloc_old w _ (by omega)
  have hbx := (Below.refl w.heap.size w).alloc (Nat.le_refl _) (.cells #[.int .i64 0, .int .i64 0] 59)
  have hbox := Box.new w (0, 0)
  have hsz : (w.alloc (.cells #[.int .i64 0, .int .i64 0] 59)).heap.size = w.heap.size + 1 := by simp
  generalize hw1 : w.alloc (.cells #[.int .i64 0, .int .i64 0] 59) = w1 at *
  have HC := LH (iclone (x :: l) A cap B w1 (by omega) hr1 hn)
  have HI : Hid (∀ W, Below w1.heap.size w1 W → Calls Tryz.prog 86 #[.slice A (x :: l).length cap] W fun e w' => e = .returned (.bool true) ∧ Below W.heap.size W w') := LH fun W hW => by
    have := iisr (x :: l) A cap B W (by have := hW.size; omega) (hr1.below (by omega) hW) hn
    rw [decide_eq_true hk] at this
    exact this
  have HR := LH hr1
  have HBX := LH hbx
  have HBOX := LH hbox
  have HK := LH hk
  have hd1 : decide (most < 1) = false := decide_eq_false (by omega)
  have hd0 : (((l.length : Int) + 1) == 0) = false := by simp; omega
  have hf : 0 ≤ x.1 ∧ x.1 < x.2 ∧ x.2 ≤ 4611686018427387903 := ⟨by have := hk.1; omega, hk.2.1, hk.2.2.1⟩
  clear hr1 hr hbx hbox hk
  simp only [List.length_cons] at *
  go_enter Tryz.func97, Tryz.ntmps97
  go_wp2_with fail
  refine HC.out.mono ?_
  rintro e w2 ⟨v, rfl, ho2, hb2⟩
  have HB2 := LH hb2
  have hw2 : w1.heap.size ≤ w2.heap.size := hb2.size
  have HX2 : Hid (Box w2 w.heap.size (0, 0)) := LH ((hb2.block _ (by omega)).trans HBOX.out)
  have ho := ho2
  obtain ⟨_, ho⟩ := ho
  rcases ho with ⟨rfl, hz⟩ | ⟨g, c2, cur, rfl, hg, _, hle, _⟩
  · simp at hz
  have HO2 := LH (OwnR.row ho2)
  clear ho2 hb2
  simp only [List.length_cons] at *
  go_wp2_with fail
  refine (HI.out w2 HB2.out).mono ?_
  rintro e w3 ⟨rfl, hb3⟩
  have HX3 : Hid (Box w3 w.heap.size (0, 0)) := LH ((hb3.block _ (by omega)).trans HX2.out)
  have HO3 := LH (HO2.out.later hb3)
  have HB3 := LH (HB2.out.trans (hb3.mono hw2))
  have hw3 : w1.heap.size ≤ w3.heap.size := HB3.out.size
  clear hb3 HO2 HB2 HX2
  obtain ⟨b, off, rfl, hbB, c1, d1⟩ := (HR.out.below (by omega) HB3.out).head
  have hsub : IntKind.i64.wrap (x.2 - x.1) = x.2 - x.1 := by rw [IntKind.wrap_i64]; omega
  by_cases ht : x.2 - x.1 ≤ most
  · have hdt : decide (x.2 - x.1 ≤ most) = true := decide_eq_true ht
    have HT : Hid (topR x most = x) := LH (by unfold topR; rw [if_neg (by omega)])
    have HE : Hid (remR x (x :: l) = l) := LH (remR_all x l (-1) HK.out)
    clear ht
    go_wp2
    have HO4 := LH (HO3.out.alloc (.cells #[.int .i64 x.1, .int .i64 x.2] 59))
    have HX4 : Hid (Box (w3.alloc (.cells #[.int .i64 x.1, .int .i64 x.2] 59)) w.heap.size (0, 0)) := LH ((heap_alloc_old w3 _ (by omega)).trans HX3.out)
    have HY4 : Hid (Box (w3.alloc (.cells #[.int .i64 x.1, .int .i64 x.2] 59)) w3.heap.size x) := LH (Box.new w3 x)
    have HB4 := LH ((HBX.out.trans (HB3.out.mono (by omega))).alloc (by omega) (.cells #[.int .i64 x.1, .int .i64 x.2] 59))
    clear c1 d1 HO3 HX3
    generalize w3.alloc (.cells #[.int .i64 x.1, .int .i64 x.2] 59) = w4 at *
    obtain ⟨q1, q2⟩ := HX4.out.cells
    obtain ⟨r1, r2⟩ := HY4.out.cells
    have f0 := HX4.out.free
    have hne : w3.heap.size ≠ w.heap.size := by omega
    have h1l : (1 : Int) ≤ ((l.length + 1 : Nat) : Int) := by omega
    by_cases hc2 : c2 = 1
    · subst hc2
      obtain rfl : l = [] := List.eq_nil_of_length_eq_zero (by omega)
      go_region
      go_wp2
      refine bodyPost_ret (results_cell3 rfl _ _ w.heap.size _ _ _ _ rfl (Box.drew (Box.set1 (Box.set0 HX4.out x.1) x.2)) Tryz.underlying59 rfl (by kernel_rfl)) rfl ?_
      exact ⟨_, by simp only [HT.out]; rfl, by rw [HT.out, HE.out]; exact ⟨_, 0, rfl, by simp, fun j hj => by cases hj⟩, ((HB4.out.setCell (Nat.le_refl _) _).setCell (Nat.le_refl _) _).drew⟩
    · have hc3 : (c2 = 1) = False := eq_false hc2
      go_region
      go_wp2
      refine bodyPost_ret (results_cell3 rfl _ _ w.heap.size _ _ _ _ rfl (Box.drew (Box.set1 (Box.set0 HX4.out x.1) x.2)) Tryz.underlying59 rfl (by kernel_rfl)) rfl ?_
      exact ⟨_, by simp only [HT.out]; rfl, by rw [HT.out, HE.out]; exact ((((HO4.out.tail (c := c2 - 1) (by omega)).only (box_only 0 _) (by omega)).only (box_only 1 _) (by omega)).later (Below.refl _ _).drew).weaken (by omega), ((HB4.out.setCell (Nat.le_refl _) _).setCell (Nat.le_refl _) _).drew⟩
  · have hdt : decide (x.2 - x.1 ≤ most) = false := decide_eq_false ht
    have hadd : IntKind.i64.wrap (x.1 + most) = x.1 + most := by rw [IntKind.wrap_i64]; omega
    have HT : Hid (topR x most = (x.1, x.1 + most)) := LH (by unfold topR; rw [if_pos (by omega)])
    have HE : Hid (remR (x.1, x.1 + most) (x :: l) = (x.1 + most, x.2) :: l) := LH (remR_some x (x.1 + most) l (-1) HK.out (by omega) (by omega))
    obtain ⟨m, hmm⟩ : ∃ m : Int, x.1 + most = m := ⟨_, rfl⟩
    rw [hmm] at hadd HT HE
    clear ht
    have hgw : g < w3.heap.size := HO3.out.ge.2
    have g0 : w3.cell? ⟨g, 0, none⟩ = some (.int .i64 x.1) := (HO3.out.cells 0 (by simp)).1
    have gf := HO3.out.free
    have hne1 : g ≠ w3.heap.size := by omega
    have hne2 : g ≠ w.heap.size := by omega
    have hne3 : w3.heap.size ≠ w.heap.size := by omega
    obtain ⟨x0, x1⟩ := HX3.out.cells
    have xf := HX3.out.free
    have hwl : w.heap.size < w3.heap.size := by omega
    have HX5 : Hid (Box (w3.setCell ⟨g, 0, none⟩ (.int .i64 m)) w.heap.size (0, 0)) := LH ((Below.heap_setCell _ ⟨g, 0, none⟩ _ _ (by show w.heap.size ≠ g; omega)).trans HX3.out)
    have HO5 : Hid (RowR (w3.setCell ⟨g, 0, none⟩ (.int .i64 m)) w1.heap.size g (l.length + 1) c2 ((m, x.2) :: l)) := LH (HO3.out.store0 0 (by simp) m)
    have HB5 := LH ((HBX.out.trans (HB3.out.mono (by omega))).setCell (p := ⟨g, 0, none⟩) (by show w.heap.size ≤ g; omega) (.int .i64 m))
    have hs5 : (w3.setCell ⟨g, 0, none⟩ (.int .i64 m)).heap.size = w3.heap.size := by simp [World.setCell]
    go_wp2
    refine bodyPost_ret (results_cell3 rfl _ _ w.heap.size _ _ _ _ rfl ((heap_alloc_old _ _ (by simp [World.setCell]; omega)).trans (Box.set1 (Box.set0 HX5.out x.1) m)) Tryz.underlying59 rfl (by kernel_rfl)) rfl ?_
    exact ⟨_, by simp only [HT.out]; rfl, by rw [HT.out, HE.out]; exact (((((OwnR.any HO5.out.own).only (box_only 0 _) (by omega)).only (box_only 1 _) (by omega)).later ((Below.refl _ _).alloc (Nat.le_refl _) _)).weaken (by omega)), ((HB5.out.setCell (Nat.le_refl _) _).setCell (Nat.le_refl _) _).alloc (by simp [World.setCell]; omega) _⟩

theorem St.ne {w : World} {base h eb eo b : Nat} {x : Rg} {L1 L2 : List (Nat × Rg)} (s : St w base h L1 ((b, x) :: L2) eb eo) : eb ≠ b := by
  have := s.apart
  rintro rfl
  exact this (by simp)
theorem St.mem {w : World} {base h eb eo b : Nat} {x : Rg} {L1 L2 : List (Nat × Rg)} (_ : St w base h L1 ((b, x) :: L2) eb eo) : b ∈ blk h (L1 ++ (b, x) :: L2) := by
  rw [blk_append]
  exact List.mem_append_right _ (by simp)
theorem St.emem {w : World} {base h eb eo : Nat} {L1 L2 : List (Nat × Rg)} (s : St w base h L1 L2 eb eo) : eb ∈ blk h (L1 ++ L2) := by
  rw [blk_append]
  exact List.mem_append_left _ s.link.1

theorem icut {w : World} {base h eb eo b : Nat} {x : Rg} {L1 L2 : List (Nat × Rg)} (s : St w base h L1 ((b, x) :: L2) eb eo) (hbase : base ≤ w.heap.size) :
    Calls Tryz.prog 89 #[.pointer (some ⟨eb, eo, none⟩)] w fun e w' => e = .returned (rgV x) ∧ St w' base h L1 L2 eb eo ∧ Below base w w' := by
  have s0 := s.below ((Below.refl _ w).alloc (Nat.le_refl _) (.cells #[.int .i64 0, .int .i64 0] 59))
  obtain ⟨c1, c2, c3, q, c4, s1⟩ := s0.cut
  have f0 := s0.free eb s0.emem eo
  have n1 : eb ≠ b := s.ne
  have n2 : eb ≠ w.heap.size := by have := (s.old eb s.emem).2; omega
  have n3 : b ≠ w.heap.size := by have := (s.old b s.mem).2; omega
  have n4 : w.heap.size ∉ blk h (L1 ++ L2) := fun hm => by
    have := (s.old w.heap.size (by
      rw [blk_append] at hm ⊢
      rcases List.mem_append.1 hm with hm | hm
      · exact List.mem_append_left _ hm
      · exact List.mem_append_right _ (List.mem_cons_of_mem _ hm))).2
    omega
  have hbe : base ≤ eb := (s.old eb s.emem).1
  have HS1 := LH s1
  have HN4 := LH n4
  have HX := LH (heap_alloc_new w (.cells #[.int .i64 0, .int .i64 0] 59))
  have HB := LH ((((Below.refl base w).alloc hbase (.cells #[.int .i64 0, .int .i64 0] 59)).setCell (p := ⟨eb, eo, none⟩) hbe (.pointer q)))
  clear s s0 s1 n4
  go_enter Tryz.func89, Tryz.ntmps89
  go_wp2
  refine bodyPost_ret (results_cell_row rfl _ _ w.heap.size _ _ _ _ rfl (Box.set1 (Box.set0 (x := (0, 0)) ((Below.heap_setCell _ _ _ _ (Ne.symm n2)).trans HX.out) x.1) x.2) Tryz.underlying59 rfl (by kernel_rfl)) rfl ?_
  exact ⟨rfl, (HS1.out.other _ 0 _ HN4.out).other _ 1 _ HN4.out, (HB.out.setCell (p := ⟨_, _, _⟩) hbase _).setCell (p := ⟨_, _, _⟩) hbase _⟩

theorem iput {w : World} {base h eb eo : Nat} {L1 L2 : List (Nat × Rg)} (s : St w base h L1 L2 eb eo) (r : Rg) (hbase : base ≤ w.heap.size) :
    Calls Tryz.prog 90 #[.pointer (some ⟨eb, eo, none⟩), rgV r] w fun e w' => ∃ eb' eo' L1', e = .returned (.pointer (some ⟨eb', eo', none⟩)) ∧ L1'.map (·.2) = L1.map (·.2) ++ (if r.1 < r.2 then [r] else []) ∧ St w' base h L1' L2 eb' eo' ∧ Below base w w' ∧ (∀ k, k < w.heap.size → k ≠ eb → w'.heap[k]? = w.heap[k]?) := by
  have s0 := s.below ((Below.refl _ w).alloc (Nat.le_refl _) (.cells #[.int .i64 r.1, .int .i64 r.2] 59))
  have hb0 := (Below.refl base w).alloc hbase (.cells #[.int .i64 r.1, .int .i64 r.2] 59)
  have hx := Box.new w r
  have hsz : w.heap.size < (w.alloc (.cells #[.int .i64 r.1, .int .i64 r.2] 59)).heap.size := by simp
  have HO := LH (fun k (hk : k < w.heap.size) => heap_alloc_old w (.cells #[.int .i64 r.1, .int .i64 r.2] 59) hk)
  by_cases hr : r.1 < r.2
  · have hd : decide (r.2 ≤ r.1) = false := decide_eq_false (by omega)
    rw [if_pos hr]
    clear hr
    go_enter Tryz.func90, Tryz.ntmps90
    go_wp2
    generalize w.alloc (.cells #[.int .i64 r.1, .int .i64 r.2] 59) = w1 at *
    obtain ⟨p, c1, s1⟩ := s0.put r 120 (Nat.le_trans hbase hb0.size)
    obtain ⟨q1, q2⟩ := hx.cells
    have hlt : eb < w1.heap.size := (s0.old eb s0.emem).2
    have d1 : (w1.alloc (.cells #[.int .i64 r.1, .int .i64 r.2, .pointer p] 120)).drew.cell? ⟨eb, eo, none⟩ = some (.pointer p) := (World.cell?_of_block (Below.heap_alloc w1 _ eb hlt)).trans c1
    have f1 : (w1.alloc (.cells #[.int .i64 r.1, .int .i64 r.2, .pointer p] 120)).drew.frozen? ⟨eb, eo, none⟩ = false := (World.frozen?_of_block (Below.heap_alloc w1 _ eb hlt)).trans (s0.free eb s0.emem eo)
    have HS := LH (s1.keep (w' := (w1.alloc (.cells #[.int .i64 r.1, .int .i64 r.2, .pointer p] 120)).drew.setCell ⟨eb, eo, none⟩ (.pointer (some ⟨w1.heap.size, 0, none⟩))) (Nat.le_refl _) (fun _ _ => rfl))
    have HB := LH ((hb0.alloc (Nat.le_trans hbase hb0.size) (.cells #[.int .i64 r.1, .int .i64 r.2, .pointer p] 120)).drew.setCell (p := ⟨eb, eo, none⟩) (s0.old eb s0.emem).1 (.pointer (some ⟨w1.heap.size, 0, none⟩)))
    clear s s0 s1 hb0 hx hlt
    go_region
    clear c1 q1 q2
    go_wp2
    go_ret
    exact ⟨w1.heap.size, 2, _, rfl, by simp, HS.out, HB.out, fun k hk hne => (Below.heap_setCell _ ⟨eb, eo, none⟩ _ k hne).trans ((Below.heap_alloc w1 _ k (by omega)).trans (HO.out k hk))⟩
  · have hd : decide (r.2 ≤ r.1) = true := decide_eq_true (by omega)
    rw [if_neg hr, List.append_nil]
    have HS := LH s0
    have HB := LH hb0
    clear hr s s0 hb0 hx hsz
    go_enter Tryz.func90, Tryz.ntmps90
    go_wp2
    go_ret
    exact ⟨eb, eo, L1, rfl, rfl, HS.out, HB.out, fun k hk _ => HO.out k hk⟩

def lenFrom (w : World) : Nat → Option Addr → Nat
  | 0, _ => 0
  | _ + 1, none => 0
  | f + 1, some a => match w.cell? ⟨a.block, 2, none⟩ with
    | some (.pointer q) => lenFrom w f q + 1
    | _ => 0
def lenLink (w : World) (f : Nat) : Value → Nat
  | .pointer (some e) => match w.cell? e with
    | some (.pointer p) => lenFrom w f p
    | _ => 0
  | _ => 0
def lenPtr (w : World) (f : Nat) : Value → Nat
  | .pointer p => lenFrom w f p
  | _ => 0
theorem ListAt.len {w : World} {L : List (Nat × Rg)} : ∀ {f p}, ListAt w p L → L.length ≤ f → lenFrom w f p = L.length := by
  induction L with
  | nil =>
    intro f p h _
    cases h
    cases f <;> rfl
  | cons y L ih =>
    obtain ⟨b, x⟩ := y
    intro f p h hf
    obtain ⟨rfl, _, _, q, h4, h5⟩ := h
    cases f with
    | zero => simp at hf
    | succ f =>
      show (match w.cell? ⟨b, 2, none⟩ with | some (.pointer q) => lenFrom w f q + 1 | _ => 0) = L.length + 1
      rw [h4]
      show lenFrom w f q + 1 = L.length + 1
      rw [ih h5 (by simpa using hf)]
theorem St.len {w : World} {base h eb eo : Nat} {L1 L2 : List (Nat × Rg)} (s : St w base h L1 L2 eb eo) {f : Nat} (hf : L2.length ≤ f) : lenLink w f (.pointer (some ⟨eb, eo, none⟩)) = L2.length := by
  obtain ⟨p, h1, h2⟩ := s.rest
  show (match w.cell? ⟨eb, eo, none⟩ with | some (.pointer p) => lenFrom w f p | _ => 0) = L2.length
  rw [h1]
  exact h2.len hf
theorem ListAt.below {w w' : World} {L : List (Nat × Rg)} {p : Option Addr} {K : Nat} (h : ListAt w p L) (hk : ∀ b ∈ L.map (·.1), b < K) (hb : Below K w w') : ListAt w' p L :=
  h.same fun b hm _ => World.cell?_of_block (hb.block b (hk b hm))

def LowL (L : List (Nat × Rg)) (n : Int) : Prop := ∀ y ∈ L, y.2.2 < n
def HighL : List (Nat × Rg) → Int → Prop
  | [], _ => True
  | y :: _, n => n ≤ y.2.2
theorem LowL.snoc {L : List (Nat × Rg)} {n : Int} {y : Nat × Rg} (h : LowL L n) (hy : y.2.2 < n) : LowL (L ++ [y]) n := fun z hz => by
  rcases List.mem_append.1 hz with hz | hz
  · exact h z hz
  · have : z = y := by simpa using hz
    rw [this]; exact hy

theorem ireach {w : World} {base h : Nat} {L : List (Nat × Rg)} (s : St w base h [] L h 0) (n : Int) :
    Calls Tryz.prog 88 #[.pointer (some ⟨h, 0, none⟩), .int .i64 n] w fun e w' => ∃ L1 L2 eb eo, e = .returned (.pointer (some ⟨eb, eo, none⟩)) ∧ L = L1 ++ L2 ∧ St w base h L1 L2 eb eo ∧ LowL L1 n ∧ HighL L2 n ∧ w' = w := by
  have HS0 := LH s
  clear s
  go_enter Tryz.func88, Tryz.ntmps88
  go_wp2
  go_loop [0] (fun v => ∃ L1 L2 eb eo, v = .pointer (some ⟨eb, eo, none⟩) ∧ L = L1 ++ L2 ∧ St w base h L1 L2 eb eo ∧ LowL L1 n) (fun v => lenLink w L.length v)
  case atStart => exact ⟨[], L, h, 0, rfl, rfl, HS0.out, fun y hy => by cases hy⟩
  case round =>
    obtain ⟨L1, L2, eb, eo, rfl, hL, hs, hall⟩ := hrel
    have HL := LH hL
    have HS := LH hs
    have HA := LH hall
    clear hL hs hall HS0
    cases L2 with
    | nil =>
      obtain ⟨p, c1, c2⟩ := HS.out.rest
      cases c2
      go_wp2
      go_ret
      exact ⟨L1, [], eb, eo, rfl, HL.out, HS.out, HA.out, trivial, rfl⟩
    | cons y L2 =>
      obtain ⟨b, x⟩ := y
      obtain ⟨c1, c2, c3, q, c4, _⟩ := HS.out.cut
      by_cases hx : x.2 < n
      · have hd : decide (x.2 < n) = true := decide_eq_true hx
        have HX := LH hx
        clear hx
        go_wp2
        go_round
        case rel => exact ⟨L1 ++ [(b, x)], L2, b, 2, rfl, by rw [HL.out]; simp, HS.out.next, HA.out.snoc HX.out⟩
        case measure =>
          have hlen : L.length = L1.length + (L2.length + 1) := by rw [HL.out]; simp
          rw [HS.out.next.len (by omega), HS.out.len (by simp; omega)]
          simp
      · have hd : decide (x.2 < n) = false := decide_eq_false hx
        have HX : Hid (n ≤ x.2) := LH (by omega)
        clear hx
        go_wp2
        go_ret
        exact ⟨L1, (b, x) :: L2, eb, eo, rfl, HL.out, HS.out, HA.out, HX.out, rfl⟩

theorem ilist {w : World} {p : Option Addr} {L : List (Nat × Rg)} (hl : ListAt w p L) (hk : ∀ b ∈ L.map (·.1), b < w.heap.size) (hn : L.length ≤ 1000000000) :
    Calls Tryz.prog 91 #[.pointer p] w fun e w' => ∃ v, e = .returned v ∧ OwnR w' w.heap.size v (L.map (·.2)) ∧ Below w.heap.size w w' := by
  have HL0 := LH hl
  have HK0 := LH hk
  clear hl hk
  go_enter Tryz.func91, Tryz.ntmps91
  go_wp2
  go_loopw [0, 3] (fun vp vo wr => ∃ q acc L2, vp = .pointer q ∧ acc ++ L2.map (·.2) = L.map (·.2) ∧ acc.length + L2.length = L.length ∧ ListAt wr q L2 ∧ (∀ b ∈ L2.map (·.1), b < w.heap.size) ∧ OwnR wr w.heap.size vo acc ∧ Below w.heap.size w wr) (fun vp _ wr => lenPtr wr L.length vp)
  case atStart => exact ⟨p, [], L, rfl, rfl, by simp, HL0.out, HK0.out, OwnR.empty, Below.refl _ _⟩
  case round =>
    obtain ⟨q, acc, L2, rfl, he, hlen, hl, hk, ho, hb⟩ := hrel
    have HE := LH he
    have HL := LH hl
    have HK := LH hk
    have HO := LH ho
    have HB := LH hb
    clear he hl hk ho hb HL0 HK0
    cases L2 with
    | nil =>
      have hq := HL.out
      cases hq
      have HE2 : Hid (acc = L.map (·.2)) := LH (by have := HE.out; simpa using this)
      go_wp2
      go_ret
      exact ⟨_, rfl, by rw [← HE2.out]; exact HO.out, HB.out⟩
    | cons y L2 =>
      obtain ⟨b, x⟩ := y
      obtain ⟨rfl, c1, c2, q2, c3, c4⟩ := HL.out
      have HL2 := LH c4
      have hbl : b < w.heap.size := HK.out b (by simp)
      have hwr : w.heap.size ≤ wr.heap.size := HB.out.size
      have hal : acc.length + (L2.length + 1) = L.length := by simpa using hlen
      clear c4
      go_wp2_with (at_builtin; refine wpList_append_rgs _ rfl (.tmp 10) (.tmp 15) rfl w.heap.size _ acc rfl (OwnR.alloc (w := wr) HO.out _) wr.heap.size 0 1 1 _ [x] rfl rfl (rgs_one wr x _) (by omega) (by simp; omega) ?_; intro v5 w5 h5 b5; have b6 := ((Below.refl _ wr).alloc hwr (.cells #[.int .i64 x.1, .int .i64 x.2] 59)).trans b5; have c5 := (b6.cell (p := ⟨b, 2, none⟩) hbl).trans c3)
      have HB5 := LH (HB.out.trans b6)
      have HL5 := LH (HL2.out.below (fun c hc => HK.out c (by simp only [List.map_cons, List.mem_cons]; exact .inr hc)) b6)
      have HLL := LH (show ListAt wr (some ⟨b, 0, none⟩) ((b, x) :: L2) from HL.out)
      go_roundw
      case rel => exact ⟨q2, acc ++ [x], L2, rfl, by rw [← HE.out]; simp, by simp; omega, HL5.out, fun c hc => HK.out c (by simp only [List.map_cons, List.mem_cons]; exact .inr hc), h5, HB5.out⟩
      case measure =>
        show lenFrom w5 L.length q2 < lenFrom wr L.length (some ⟨b, 0, none⟩)
        rw [HL5.out.len (by omega), HLL.out.len (by simp; omega)]
        simp

attribute [local go_sem] Oper.semAt_some

def upto {α : Type} (f : Nat → α) (k : Nat) : List α := (List.range k).map f
theorem upto_succ {α : Type} (f : Nat → α) (k : Nat) : upto f (k + 1) = upto f k ++ [f k] := by simp [upto, List.range_succ]
theorem upto_len {α : Type} (f : Nat → α) (k : Nat) : (upto f k).length = k := by simp [upto]
def bwP (l : List Rg) (k : Nat) : Nat × Rg := (l.length - 1 - k, l[l.length - 1 - k]?.getD (0, 0))
theorem bwP_all (l : List Rg) : ((upto (bwP l) l.length).map Prod.snd).reverse = l := by
  apply List.ext_getElem
  · simp [upto]
  · intro i h1 h2
    simp [upto, bwP]
    rw [show l.length - 1 - (l.length - 1 - i) = i from by omega]
    simp [h2]
structure BB (n₀ h : Nat) (W W' : World) : Prop where
  size : W.heap.size ≤ W'.heap.size
  block : ∀ k, k < n₀ → k ≠ h → W'.heap[k]? = W.heap[k]?
theorem BB.refl (n₀ h : Nat) (W : World) : BB n₀ h W W := ⟨Nat.le_refl _, fun _ _ _ => rfl⟩
theorem BB.trans {n₀ h : Nat} {A B C : World} (x : BB n₀ h A B) (y : BB n₀ h B C) : BB n₀ h A C := ⟨Nat.le_trans x.size y.size, fun k h1 h2 => (y.block k h1 h2).trans (x.block k h1 h2)⟩
theorem BB.put {n₀ h : Nat} {w : World} (hn : n₀ ≤ w.heap.size) (W : World) (y : Nat) (o o' : Obj) (hl : w.heap.size ≤ y) (_ : W.heap[y]? = some o) (_ : o.isCells = false) (_ : o.isWalk = false) : BB n₀ h W (W.putObj y o') :=
  ⟨(grownBy_putObj' W y o').size, fun k hk _ => World.putObj_heap_other (by omega)⟩
theorem BB.of {n₀ h : Nat} {W W' : World} (hb : Below n₀ W W') : BB n₀ h W W' := ⟨hb.size, fun k hk _ => hb.block k hk⟩
theorem BB.setCell {n₀ h k : Nat} {W W' : World} (hb : BB n₀ h W W') (v : Value) : BB n₀ h W (W'.setCell ⟨h, k, none⟩ v) :=
  ⟨by simpa [World.setCell] using hb.size, fun j h1 h2 => (Below.heap_setCell W' ⟨h, k, none⟩ v j h2).trans (hb.block j h1 h2)⟩

theorem bwd1_in (F : Fence) (n : Nat) (hf : F.fn 148) (hro : F.round = none) (hn : 1 ≤ n) (y Bs n₀ h : Nat) (l : List Rg) (A : Option Addr) (cap : Nat) (hlen : l.length ≤ 1000000000) (hBs : Bs < n₀) (hBh : Bs ≠ h) (hh : h ≤ n₀) (J Jx : List (Nat × Rg) → World → Prop)
    (hY : ∀ pre x W, J pre W → pre.length < l.length → YieldAt F (n - 1) Tryz.prog y #[.int .i64 (x.1 : Int), rgV x.2] W fun e W' =>
      (e = .returned (.bool true) ∧ J (pre ++ [x]) W' ∧ BB n₀ h W W') ∨ (e = .returned (.bool false) ∧ Jx (pre ++ [x]) W'))
    (W : World) (hc : W.cell? ⟨Bs, 0, none⟩ = some (.slice A l.length cap)) (hr : Rgs W h A l) (h0 : J [] W) :
    CallsIn F n Tryz.prog 148 #[.func (.yield y) #[] #[], .pointer (some ⟨Bs, 0, none⟩)] W fun e W' => (∃ v, e = .returned v) ∧
      ((∃ ys, ys = upto (bwP l) l.length ∧ J ys W') ∨ (∃ pre, True ∧ Jx pre W')) := by
  have hw0 : IntKind.i64.wrap ((l.length : Int) - 1) = (l.length : Int) - 1 := by rw [IntKind.wrap_i64]; omega
  have HR := LH hr
  clear hr
  refine callsIn_of_wp Tryz.func148 rfl hf ?_ hro
  simp only [Tryz.ntmps148, List.size_toArray, List.length_cons, List.length_nil, Nat.reduceAdd, Nat.reduceSub, Array.replicate_succ, Array.replicate_zero, List.push_toArray, List.append_toArray, List.nil_append, List.cons_append]
  gi_wp2
  gi_loopw [3] (fun i wr => ∃ m : Nat, m ≤ l.length ∧ i = .int .i64 ((m : Int) - 1) ∧ J (upto (bwP l) (l.length - m)) wr ∧ BB n₀ h W wr)
    (fun i _ => (intOf i + 1).toNat)
  case atStart => exact ⟨l.length, Nat.le_refl _, rfl, by rw [Nat.sub_self]; exact h0, BB.refl _ _ _⟩
  case round =>
    obtain ⟨m, hm, rfl, hJs, hnx⟩ := hrel
    have hcx : wr.cell? ⟨Bs, 0, none⟩ = some (.slice A l.length cap) := (World.cell?_of_block (hnx.block Bs hBs hBh)).trans hc
    cases m with
    | zero =>
      rw [show (((0 : Nat) : Int) - 1) = -1 from rfl]
      rw [Nat.sub_zero] at hJs
      gi_wp2
      go_end0
      exact ⟨⟨_, rfl⟩, .inl ⟨_, rfl, hJs⟩⟩
    | succ m =>
      rw [show (((m + 1 : Nat) : Int) - 1) = (m : Int) from by omega]
      have hlt : m < l.length := by omega
      have HRW := LH (HR.out.keep (w' := wr) fun k hk => hnx.block k (by omega) (by omega))
      obtain ⟨b, off, rfl, hbB, c1, c2⟩ := HRW.out m hlt
      have hx : bwP l (l.length - (m + 1)) = (m, l[m]) := by
        unfold bwP
        rw [show l.length - 1 - (l.length - (m + 1)) = m from by omega]
        simp [hlt]
      have hu : upto (bwP l) (l.length - m) = upto (bwP l) (l.length - (m + 1)) ++ [(m, l[m])] := by
        rw [← hx, ← upto_succ]
        congr 1
        omega
      have HU := LH hu
      clear hu hx
      generalize l[m] = x at *
      obtain ⟨fn, tmps, assign, body, hy, hR⟩ := hY _ (m, x) wr hJs (by rw [upto_len]; omega)
      dsimp only at hy
      have hw1 : IntKind.i64.wrap ((m : Int) - 1) = (m : Int) - 1 := by rw [IntKind.wrap_i64]; omega
      gi_wp2
      refine hR.mono ?_
      rintro e W3 (⟨rfl, hJ3, hk3⟩ | ⟨rfl, hJx3⟩)
      · gi_wp2
        go_roundw
        case rel => exact ⟨m, by omega, rfl, by rw [HU.out]; exact hJ3, hnx.trans hk3⟩
        case measure => simp [intOf]
      · gi_wp2
        refine bodyPost_ret (results_none rfl _ _ _) rfl ?_
        exact ⟨⟨_, rfl⟩, .inr ⟨_, trivial, hJx3⟩⟩

theorem bwd_in (F : Fence) (n : Nat) (hf : F.fn 130) (hro : F.round = none) (a : Option Addr) (len cap : Nat) (w : World) :
    CallsIn F n Tryz.prog 130 #[.slice a len cap] w fun e w' => e = .returned (.func (.func 148) #[] #[.pointer (some ⟨w.heap.size, 0, none⟩)]) ∧ w' = w.alloc (.cells #[.slice a len cap] 27) := by
  refine callsIn_of_wp Tryz.func130 rfl hf ?_ hro
  simp only [Tryz.ntmps130, List.size_toArray, List.length_cons, List.length_nil, Nat.reduceAdd, Nat.reduceSub, Array.replicate_succ, Array.replicate_zero, List.push_toArray, List.append_toArray, List.nil_append, List.cons_append]
  gi_wp2
  go_ret
  exact ⟨rfl, rfl⟩

theorem bwd_stops (F : Fence) (n : Nat) (hf : F.fn 148) (hro : F.round = none) (hn : 1 ≤ n) (Bs n₀ h : Nat) (l : List Rg) (A : Option Addr) (cap : Nat) (hlen : l.length ≤ 1000000000) (w : World) (hBs : Bs < n₀) (hBh : Bs ≠ h) (hh : h ≤ n₀) (hn₀ : n₀ ≤ w.heap.size)
    (hc : w.cell? ⟨Bs, 0, none⟩ = some (.slice A l.length cap)) (hr : Rgs w h A l) :
    SeqStopsK F n Tryz.prog 148 #[.pointer (some ⟨Bs, 0, none⟩)] (fun x : Nat × Rg => #[Value.int .i64 (x.1 : Int), rgV x.2]) (BB n₀ h) (fun ys => ys = upto (bwP l) l.length)
      (fun _ => True) l.length w := fun y J Jx W hW _ _ hY h0 =>
  bwd1_in F n hf hro hn y Bs n₀ h l A cap hlen hBs hBh hh J Jx hY W ((hW.cell (p := ⟨Bs, 0, none⟩) (by show Bs < _; omega)).trans hc) (hr.below (by omega) hW) h0

def Nodes (w : World) : Option Addr → List (Nat × Rg) → Prop
  | p, [] => p = none
  | p, (b, x) :: L => p = some ⟨b, 0, none⟩ ∧ ∃ q, w.heap[b]? = some (.cells #[.int .i64 x.1, .int .i64 x.2, .pointer q] 120 (0, 0)) ∧ Nodes w q L
theorem Nodes.kept {w w' : World} {L : List (Nat × Rg)} : ∀ {p}, Nodes w p L → (∀ b ∈ L.map (·.1), ∀ cs t fr, w.heap[b]? = some (.cells cs t fr) → w'.heap[b]? = w.heap[b]?) → Nodes w' p L := by
  induction L with
  | nil => intro p h _; exact h
  | cons y L ih =>
    obtain ⟨b, x⟩ := y
    intro p h hb
    obtain ⟨h1, q, h2, h3⟩ := h
    exact ⟨h1, q, (hb b (by simp) _ _ _ h2).trans h2, ih h3 fun c hc => hb c (by simp only [List.map_cons, List.mem_cons]; exact .inr hc)⟩
theorem Nodes.list {w : World} {L : List (Nat × Rg)} : ∀ {p}, Nodes w p L → ListAt w p L := by
  induction L with
  | nil => intro p h; exact h
  | cons y L ih =>
    obtain ⟨b, x⟩ := y
    intro p h
    obtain ⟨h1, q, h2, h3⟩ := h
    exact ⟨h1, cell_of_row w b 0 _ _ _ h2, cell_of_row w b 1 _ _ _ h2, q, cell_of_row w b 2 _ _ _ h2, ih h3⟩
theorem Nodes.free {w : World} {L : List (Nat × Rg)} : ∀ {p}, Nodes w p L → ∀ b ∈ L.map (·.1), ∀ k, w.frozen? ⟨b, k, none⟩ = false := by
  induction L with
  | nil => intro p _ b hb; cases hb
  | cons y L ih =>
    obtain ⟨b, x⟩ := y
    intro p h c hc k
    obtain ⟨h1, q, h2, h3⟩ := h
    rcases List.mem_cons.1 (by simpa using hc : c ∈ b :: L.map (·.1)) with rfl | hc
    · exact frozen_cells h2 k
    · exact ih h3 c hc k
def MadeP (h base : Nat) (rs : List Rg) (W : World) (p : Option Addr) (L : List (Nat × Rg)) : Prop := Boxed W h 115 (.pointer p) ∧ Nodes W p L ∧ L.map (·.2) = rs ∧ (L.map (·.1)).Nodup ∧ ∀ b ∈ L.map (·.1), base ≤ b ∧ b < W.heap.size
def Made (h base : Nat) (rs : List Rg) (W : World) : Prop := ∃ p L, MadeP h base rs W p L
theorem MadeP.kept {h base : Nat} {rs : List Rg} {W W' : World} {row : Option Nat} {p : Option Addr} {L : List (Nat × Rg)} (m : MadeP h base rs W p L) (hg : W.grownBy W' row) (hr : ∀ r, row = some r → ∃ o : Obj, W.heap[r]? = some o ∧ o.isCells = false) : MadeP h base rs W' p L := by
  obtain ⟨h1, h2, h3, h4, h5⟩ := m
  have hk : ∀ b cs t fr, W.heap[b]? = some (Obj.cells cs t fr) → W'.heap[b]? = W.heap[b]? := fun b cs t fr hb =>
    hg.block b (Array.getElem?_eq_some_iff.1 hb).1 fun e => by
      obtain ⟨o, ho, hc⟩ := hr b e.symm
      rw [hb] at ho
      cases ho
      cases hc
  exact ⟨(hk h _ _ _ h1).trans h1, h2.kept fun b _ cs t fr hb => hk b cs t fr hb, h3, h4, fun b hb => ⟨(h5 b hb).1, Nat.lt_of_lt_of_le (h5 b hb).2 hg.size⟩⟩
theorem Made.kept {h base : Nat} {rs : List Rg} {W W' : World} {row : Option Nat} (m : Made h base rs W) (hg : W.grownBy W' row) (hr : ∀ r, row = some r → ∃ o : Obj, W.heap[r]? = some o ∧ o.isCells = false) : Made h base rs W' := by
  obtain ⟨p, L, m⟩ := m
  exact ⟨p, L, m.kept hg hr⟩
theorem MadeP.cons {h base : Nat} {rs : List Rg} {W : World} {p : Option Addr} {L : List (Nat × Rg)} (m : MadeP h base rs W p L) (x : Rg) (hb : base ≤ W.heap.size) (hh : h < base) :
    Made h base (x :: rs) ((W.alloc (.cells #[.int .i64 x.1, .int .i64 x.2, .pointer p] 120)).setCell ⟨h, 0, none⟩ (.pointer (some ⟨W.heap.size, 0, none⟩))) := by
  obtain ⟨h1, h2, h3, h4, h5⟩ := m
  refine ⟨some ⟨W.heap.size, 0, none⟩, (W.heap.size, x) :: L, (h1.alloc _).set _, ⟨rfl, p, ?_, h2.kept fun b hb cs t fr _ => ?_⟩, by rw [← h3]; rfl, ?_, fun b hb => ?_⟩
  · exact (Below.heap_setCell _ ⟨h, 0, none⟩ _ _ (by show W.heap.size ≠ h; omega)).trans (heap_alloc_new W _)
  · have := h5 b hb
    exact (Below.heap_setCell _ ⟨h, 0, none⟩ _ _ (by show b ≠ h; omega)).trans (Below.heap_alloc W _ b this.2)
  · refine List.nodup_cons.2 ⟨fun hm => ?_, h4⟩
    have := (h5 W.heap.size hm).2
    omega
  · rcases List.mem_cons.1 (by simpa using hb : b ∈ W.heap.size :: L.map (·.1)) with rfl | hb
    · exact ⟨by assumption, by simp [World.setCell]⟩
    · have := h5 b hb
      refine ⟨this.1, ?_⟩
      simp [World.setCell]
      omega

theorem ilinks_in (l : List Rg) (A : Option Addr) (cap B : Nat) (w : World) (hB : B ≤ w.heap.size) (hr : Rgs w B A l) (hn : l.length ≤ 1000000000) :
    CallsIn Fence.wide 6 Tryz.prog 87 #[.slice A l.length cap] w fun e w' => ∃ p L, e = .returned (.pointer p) ∧ Nodes w' p L ∧ L.map (·.2) = l ∧ (L.map (·.1)).Nodup ∧ (∀ b ∈ L.map (·.1), w.heap.size ≤ b ∧ b < w'.heap.size) ∧ Below w.heap.size w w' := by
  have h1 : 1 ≤ 6 := by omega
  refine callsIn_of_wp_marks Tryz.func87 rfl trivial ?_ rfl
  simp only [Tryz.ntmps87, List.size_toArray, List.length_cons, List.length_nil, Nat.reduceAdd, Nat.reduceSub, Array.replicate_succ, Array.replicate_zero, List.push_toArray, List.append_toArray, List.nil_append, List.cons_append]
  gi_wp2_with (refine ⟨trivial, ?_⟩; gi_at_call 130; refine (bwd_in Fence.wide _ trivial rfl _ _ _ _).mono ?_; rintro e w' ⟨rfl, rfl⟩)
  have bH := (Boxed.new w 115 (.pointer none)).alloc (.cells #[.slice A l.length cap] 27)
  have bS := Boxed.new (w.alloc (.cells #[.pointer none] 115)) 27 (.slice A l.length cap)
  rw [World.size_alloc] at bS
  have hB0 : Below w.heap.size w ((w.alloc (.cells #[.pointer none] 115)).alloc (.cells #[.slice A l.length cap] 27)) := ((Below.refl _ w).alloc (Nat.le_refl _) _).alloc (by simp) _
  have hsz : ((w.alloc (.cells #[.pointer none] 115)).alloc (.cells #[.slice A l.length cap] 27)).heap.size = w.heap.size + 2 := by simp
  have hr0 := (hr.below hB hB0).up hB
  obtain ⟨W0, hW0⟩ : ∃ W0, (w.alloc (.cells #[.pointer none] 115)).alloc (.cells #[.slice A l.length cap] 27) = W0 := ⟨_, rfl⟩
  rw [hW0] at bH bS hB0 hsz hr0 ⊢
  clear hW0 hr
  refine wpIn_rangeFunc_ownH rfl h1 (gf := 148) (lb := #[.pointer (some ⟨w.heap.size + 1, 0, none⟩)]) rfl trivial (enters_of Tryz.func148 (by kernel_rfl) rfl)
    (bwd_stops Fence.wide (6 - 1) trivial rfl (by omega) (w.heap.size + 1) W0.heap.size w.heap.size l A cap hn W0 (by omega) (by omega) (by omega) (Nat.le_refl _) bS.cell hr0) (fun h k => BB.trans h k) (BB.put (Nat.le_refl _)) (Below.refl _ _) (fun _ => rfl)
    (fun (pre : List (Nat × Rg)) W => Made w.heap.size W0.heap.size ((pre.map Prod.snd).reverse) W ∧ Below w.heap.size w W ∧ W0.heap.size ≤ W.heap.size)
    (fun _ _ _ => False)
    (fun s X Y row hs hg hr => ⟨hs.1.kept hg fun r e => (hr r e).2, ownFrom_below (β := Unit) (n₀ := w.heap.size) (B := W0.heap.size) (w₀ := w) (Nat.le_refl _) (by omega) () X Y row hs.2.1 hg hr, Nat.le_trans hs.2.2 hg.size⟩)
    (fun _ _ _ _ _ hs _ _ => hs)
    ⟨⟨none, [], bH, rfl, rfl, by simp, fun b hb => by cases hb⟩, hB0, Nat.le_refl _⟩
    (fun x a' W => ∃ Bx, w.heap.size + 1 < Bx ∧ Box W Bx x.2 ∧ a' = { tmps := #[.slice A l.length cap, undef, .pointer none, .pointer (some ⟨w.heap.size, 0, none⟩), undef, .pointer (some ⟨Bx, 0, none⟩), .slice A l.length cap, .func (.func 148) #[] #[.pointer (some ⟨w.heap.size + 1, 0, none⟩)], .int .i64 (x.1 : Int), rgV x.2, undef, undef, undef, undef, undef], defers := [] })
    (fun x a' _ X Y row hs hg hr => by
      obtain ⟨Bx, h1, h2, h3⟩ := hs
      refine ⟨Bx, h1, (hg.block Bx (Array.getElem?_eq_some_iff.1 h2).1 fun e => ?_).trans h2, h3⟩
      obtain ⟨_, o, ho, hc⟩ := hr Bx e.symm
      rw [show X.heap[Bx]? = _ from h2] at ho
      cases ho
      cases hc)
    ?assign ?body ?done ?stop
  case assign =>
    rintro y pre x W K ⟨hm, hB1, hW⟩ hK
    gi_wp2
    exact hK _ _ ((KeepsOthers.alloc _ _).from _) (BB.of ((Below.refl _ W).alloc hW _)) ⟨hm.kept (World.grownBy_alloc W _ none) (fun r e => by cases e), hB1.alloc hB1.size _, by simp; omega⟩ ⟨W.heap.size, by omega, Box.new W x.2, rfl⟩
  case body =>
    rintro y pre x a' W hl ⟨r, hr⟩ ⟨hm, hB1, hW⟩ ⟨Bx, hBx, bX, rfl⟩ hlt
    obtain ⟨p, L, hm⟩ := hm
    obtain ⟨c1, c2⟩ := bX.cells
    have c3 := hm.1.cell
    have c4 := (hm.1.alloc (.cells #[.int .i64 x.2.1, .int .i64 x.2.2, .pointer p] 120)).cell
    have f4 := (hm.1.alloc (.cells #[.int .i64 x.2.1, .int .i64 x.2.2, .pointer p] 120)).frozen
    have HM := LH (hm.cons x.2 hW (by omega))
    have HB := LH ((hB1.alloc hB1.size (.cells #[.int .i64 x.2.1, .int .i64 x.2.2, .pointer p] 120)).setCell (p := ⟨w.heap.size, 0, none⟩) (Nat.le_refl _) (.pointer (some ⟨W.heap.size, 0, none⟩)))
    have HW := LH hW
    clear hm hB1 bX hr hr0 bS bH hB0
    gi_wp2
    exact ⟨((KeepsOthers.alloc _ _).from _).trans ((KeepsOthers.setCell _ _ _).from _), (BB.of ((Below.refl _ W).alloc HW.out _)).setCell _, by rw [List.map_append, List.reverse_append]; exact HM.out, HB.out, by simp [World.setCell]; have := HW.out; omega⟩
  case done =>
    rintro D ys W hD rfl ⟨hm, hB1, hW⟩ hK
    obtain ⟨p, L, hm⟩ := hm
    have c3 := hm.1.cell
    have HM := LH hm
    have HK := LH hK
    have HB1 := LH hB1
    clear hm hB1 hr0 bS bH hB0
    gi_wp2
    refine ⟨by simp, .inl ⟨_, _, rfl, run_takeDeferred HK.out, ?_⟩⟩
    obtain ⟨_, m2, m3, m4, m5⟩ := HM.out.kept (grownBy_putObj' W D (.deferred none)) (fun r e => by cases e; exact ⟨_, HK.out, rfl⟩)
    exact ⟨_, results_tmp rfl _ _ _, p, L, rfl, m2, by rw [m3, bwP_all], m4, fun b hb => ⟨by have := (m5 b hb).1; omega, (m5 b hb).2⟩, HB1.out.trans (belowK_b (w := w) (Nat.le_refl _) W D _ _ (by omega) HK.out rfl rfl)⟩
  case stop =>
    rintro D c pre W _ _ h _
    exact h.elim

theorem ilinks (l : List Rg) (A : Option Addr) (cap B : Nat) (w : World) (hB : B ≤ w.heap.size) (hr : Rgs w B A l) (hn : l.length ≤ 1000000000) :
    Calls Tryz.prog 87 #[.slice A l.length cap] w fun e w' => ∃ p L, e = .returned (.pointer p) ∧ Nodes w' p L ∧ L.map (·.2) = l ∧ (L.map (·.1)).Nodup ∧ (∀ b ∈ L.map (·.1), w.heap.size ≤ b ∧ b < w'.heap.size) ∧ Below w.heap.size w w' :=
  callsIn_wide.1 (ilinks_in l A cap B w hB hr hn)

theorem snewS (n : Int) (w : World) :
    Calls Tryz.prog 9 #[.int .i64 n] w fun e w' => ∃ v1 v2 v3 v4, e = .returned (.tuple #[snV (nwS n) v1 v2 v3 v4, .bool (decide (powR n))]) ∧ OwnSn w' w.heap.size v1 v2 v3 v4 (nwS n) ∧ Below w.heap.size w w' := by
  have X0 := RowS.new w zeroS (.slice none 0 0) (.slice none 0 0) (.slice none 0 0) (.slice none 0 0)
  have HX : Hid (RowS (w.alloc (.cells (snC 0 0 0 0 (.slice none 0 0) (.slice none 0 0) (.slice none 0 0) (.slice none 0 0) 0 0 0 0) 29)) w.heap.size zeroS (.slice none 0 0) (.slice none 0 0) (.slice none 0 0) (.slice none 0 0)) := LH X0
  have HB : Hid (Below w.heap.size w (w.alloc (.cells (snC 0 0 0 0 (.slice none 0 0) (.slice none 0 0) (.slice none 0 0) (.slice none 0 0) 0 0 0 0) 29))) := LH ((Below.refl _ _).alloc (Nat.le_refl _) _)
  have HZ : Hid ((w.alloc (.cells (snC 0 0 0 0 (.slice none 0 0) (.slice none 0 0) (.slice none 0 0) (.slice none 0 0) 0 0 0 0) 29)).heap.size = w.heap.size + 1) := LH (by simp)
  have HNR := LH fun W => snewrn n W
  clear X0
  have HE4 : Hid (∀ (W : World) (v : Value) (l : List Int) (K : Nat), OwnK W K v l → OwnS W K v (.slice none 0 0) (.slice none 0 0) (.slice none 0 0) l [] [] []) := LH fun W v l K h => ⟨⟨h, OwnP.empty, OwnP.empty, OwnP.empty⟩, ⟨Apart.symm (.inl rfl), Apart.symm (.inl rfl), Apart.symm (.inl rfl)⟩, ⟨.inl rfl, .inl rfl⟩, .inl rfl⟩
  by_cases hp : powR n
  · skip
    rw [show nwS n = ⟨0, nwR n, [], [], [], -1, 0, 0, 0⟩ from if_pos hp, decide_eq_true hp]
    rw [decide_eq_true hp] at HNR
    generalize nwR n = R at *
    clear hp
    go_enter Tryz.func9, Tryz.ntmps9
    go_upto_region 1 with fail
    generalize w.alloc (.cells (snC 0 0 0 0 (.slice none 0 0) (.slice none 0 0) (.slice none 0 0) (.slice none 0 0) 0 0 0 0) 29) = w1 at *
    go_wp2_with fail
    refine (HNR.out _).mono ?_
    rintro e w2 ⟨v, rfl, ho, hb⟩
    obtain ⟨A9, d9, rfl, _, _⟩ := ho.frs
    have HX2 := LH (HX.out.below hb (by have := HZ.out; omega))
    have HB2 := LH (HB.out.trans (hb.mono HB.out.size))
    have HO2 := LH (ho.weaken (Nat.le_of_eq HZ.out.symm))
    clear ho hb
    go_upto_region 2 with fail
    have HN := LH (BoxN.new w2 R.size R.base R.en (.slice A9 R.cs.length d9))
    have HX3 := LH (HX2.out.alloc (.cells (rnC R.size R.base R.en (.slice A9 R.cs.length d9)) 26))
    have HB3 := LH (HB2.out.alloc HB2.out.size (.cells (rnC R.size R.base R.en (.slice A9 R.cs.length d9)) 26))
    have HO3 := LH (HO2.out.alloc (.cells (rnC R.size R.base R.en (.slice A9 R.cs.length d9)) 26))
    generalize w2.alloc (.cells (rnC R.size R.base R.en (.slice A9 R.cs.length d9)) 26) = w3 at *
    generalize w2.heap.size = gr at *
    clear HX HX2 HB HB2 HO2 HNR
    obtain ⟨y0, y1, y2, y3⟩ := HN.out.cells
    obtain ⟨q0, q1, q2, q3, q4, q5, q6, q7, q8, q9, q10, q11⟩ := HX3.out.cells
    have qf := HX3.out.free
    go_wp2
    have X := laidS_row HX3.out (⟨0, R, [], [], [], -1, 0, 0, 0⟩ : Sn) (.slice A9 R.cs.length d9) (.slice none 0 0) (.slice none 0 0) (.slice none 0 0)
    have Y := laidS_own (HE4.out _ _ _ _ HO3.out) (Nat.lt_succ_self _) (⟨0, R, [], [], [], -1, 0, 0, 0⟩ : Sn) (.slice A9 R.cs.length d9) (.slice none 0 0) (.slice none 0 0) (.slice none 0 0)
    have Z := laidS_below HB3.out (Nat.le_refl _) (⟨0, R, [], [], [], -1, 0, 0, 0⟩ : Sn) (.slice A9 R.cs.length d9) (.slice none 0 0) (.slice none 0 0) (.slice none 0 0)
    refine bodyPost_ret (results_ct rfl _ _ w.heap.size _ _ _ _ rfl X Tryz.underlying29 rfl (by kernel_rfl)) rfl ?_
    exact ⟨_, _, _, _, rfl, Y.weaken (Nat.le_succ _), Z⟩
  · skip
    rw [show nwS n = ⟨0, ⟨0, 0, 0, []⟩, [], [], [], 0, 0, 0, 0⟩ from if_neg hp, decide_eq_false hp]
    rw [decide_eq_false hp] at HNR
    generalize nwR n = R at *
    clear hp
    go_enter Tryz.func9, Tryz.ntmps9
    go_upto_region 1 with fail
    generalize w.alloc (.cells (snC 0 0 0 0 (.slice none 0 0) (.slice none 0 0) (.slice none 0 0) (.slice none 0 0) 0 0 0 0) 29) = w1 at *
    go_wp2_with fail
    refine (HNR.out _).mono ?_
    rintro e w2 ⟨v, rfl, ho, hb⟩
    obtain ⟨A9, d9, rfl, _, _⟩ := ho.frs
    have HX2 := LH (HX.out.below hb (by have := HZ.out; omega))
    have HB2 := LH (HB.out.trans (hb.mono HB.out.size))
    have HO2 := LH (ho.weaken (Nat.le_of_eq HZ.out.symm))
    clear ho hb
    go_upto_region 2 with fail
    have HN := LH (BoxN.new w2 R.size R.base R.en (.slice A9 R.cs.length d9))
    have HX3 := LH (HX2.out.alloc (.cells (rnC R.size R.base R.en (.slice A9 R.cs.length d9)) 26))
    have HB3 := LH (HB2.out.alloc HB2.out.size (.cells (rnC R.size R.base R.en (.slice A9 R.cs.length d9)) 26))
    have HO3 := LH (HO2.out.alloc (.cells (rnC R.size R.base R.en (.slice A9 R.cs.length d9)) 26))
    generalize w2.alloc (.cells (rnC R.size R.base R.en (.slice A9 R.cs.length d9)) 26) = w3 at *
    generalize w2.heap.size = gr at *
    clear HX HX2 HB HB2 HO2 HNR
    obtain ⟨y0, y1, y2, y3⟩ := HN.out.cells
    obtain ⟨q0, q1, q2, q3, q4, q5, q6, q7, q8, q9, q10, q11⟩ := HX3.out.cells
    have qf := HX3.out.free
    go_wp2
    have X := laidS_row HX3.out (zeroS : Sn) (.slice none 0 0) (.slice none 0 0) (.slice none 0 0) (.slice none 0 0)
    have Y := laidS_own (HE4.out w3 _ _ (w.heap.size + 1) OwnK.empty) (Nat.lt_succ_self _) (zeroS : Sn) (.slice none 0 0) (.slice none 0 0) (.slice none 0 0) (.slice none 0 0)
    have Z := laidS_below HB3.out (Nat.le_refl _) (zeroS : Sn) (.slice none 0 0) (.slice none 0 0) (.slice none 0 0) (.slice none 0 0)
    refine bodyPost_ret (results_ct rfl _ _ w.heap.size _ _ _ _ rfl X Tryz.underlying29 rfl (by kernel_rfl)) rfl ?_
    exact ⟨_, _, _, _, rfl, Y.weaken (Nat.le_succ _), Z⟩
theorem inewrn (n : Int) (w : World) :
    Calls Tryz.prog 27 #[.int .i64 n] w fun e w' => ∃ v, e = .returned (.tuple #[rnV (nwR n) v, .bool (decide (powR n))]) ∧ OwnK w' w.heap.size v (nwR n).cs ∧ Below w.heap.size w w' := by
  have X := LH (BoxN.new w 0 0 0 (.slice none 0 0))
  have HB := LH ((Below.refl w.heap.size w).alloc (Nat.le_refl _) (.cells (rnC 0 0 0 (.slice none 0 0)) 26))
  have hz : (w.alloc (.cells (rnC 0 0 0 (.slice none 0 0)) 26)).heap.size = w.heap.size + 1 := by simp
  have HZ := LH hz
  have HPW := LH fun W => isize n W
  clear hz
  by_cases h : powR n
  · have hv : nwR n = ⟨n, 0, 0, List.replicate n.toNat 0⟩ := if_pos h
    rw [hv, decide_eq_true h]
    rw [decide_eq_true h] at HPW
    have hl := h.lo
    clear h hv
    obtain ⟨k, rfl⟩ := Int.eq_ofNat_of_zero_le (show 0 ≤ n by omega)
    have hmk := make_ints k (by omega)
    rw [Int.toNat_natCast]
    clear hl
    go_enter Tryz.func27, Tryz.ntmps27
    go_upto_region 1 with fail
    generalize w.alloc (.cells (rnC 0 0 0 (.slice none 0 0)) 26) = w1 at *
    go_wp2_with fail
    refine (HPW.out _).mono ?_
    rintro e w2 ⟨rfl, rfl⟩
    have X2 := LH (X.out.alloc (.cells (cellsI (List.replicate k 0)) 3))
    have HO : Hid (OwnK (w2.alloc (.cells (cellsI (List.replicate k 0)) 3)) (w.heap.size + 1) (.slice (some ⟨w2.heap.size, 0, none⟩) (List.replicate k (0 : Int)).length k) (List.replicate k 0)) := LH (OwnK.row (Nat.le_of_eq HZ.out.symm) 3 (heap_alloc_new w2 _) (by simp))
    rw [List.length_replicate] at HO
    have HB2 := LH (HB.out.alloc HB.out.size (.cells (cellsI (List.replicate k 0)) 3))
    obtain ⟨a0, a1, a2, a3⟩ := X2.out.cells
    have af := X2.out.free
    go_wp2
    have hg : w.heap.size < w.heap.size + 1 := Nat.lt_succ_self _
    have hq := Nat.le_refl w.heap.size
    refine bodyPost_ret (results_ct rfl _ _ w.heap.size _ _ _ _ rfl ((((X2.out.set0 _).set1 _).set2 _).set3 _) Tryz.underlying26 rfl (by kernel_rfl)) rfl ?_
    exact ⟨_, rfl, ((((HO.out.apart _ 0 _ hg).apart _ 1 _ hg).apart _ 2 _ hg).apart _ 3 _ hg).weaken (Nat.le_succ _), (((HB2.out.setCell (p := ⟨_, _, _⟩) hq _).setCell (p := ⟨_, _, _⟩) hq _).setCell (p := ⟨_, _, _⟩) hq _).setCell (p := ⟨_, _, _⟩) hq _⟩
  · have hv : nwR n = ⟨0, 0, 0, []⟩ := if_neg h
    rw [hv, decide_eq_false h]
    rw [decide_eq_false h] at HPW
    clear h hv
    go_enter Tryz.func27, Tryz.ntmps27
    go_upto_region 1 with fail
    generalize w.alloc (.cells (rnC 0 0 0 (.slice none 0 0)) 26) = w1 at *
    go_wp2_with fail
    refine (HPW.out _).mono ?_
    rintro e w2 ⟨rfl, rfl⟩
    obtain ⟨a0, a1, a2, a3⟩ := X.out.cells
    have af := X.out.free
    go_wp2
    have hq := Nat.le_refl w.heap.size
    refine bodyPost_ret (results_ct rfl _ _ w.heap.size _ _ _ _ rfl ((((X.out.set0 _).set1 _).set2 _).set3 _) Tryz.underlying26 rfl (by kernel_rfl)) rfl ?_
    exact ⟨_, rfl, OwnK.empty, (((HB.out.setCell (p := ⟨_, _, _⟩) hq _).setCell (p := ⟨_, _, _⟩) hq _).setCell (p := ⟨_, _, _⟩) hq _).setCell (p := ⟨_, _, _⟩) hq _⟩

theorem inewS (n : Int) (w : World) :
    Calls Tryz.prog 6 #[.int .i64 n] w fun e w' => ∃ v1 v2 v3 v4, e = .returned (.tuple #[snV (nwS n) v1 v2 v3 v4, .bool (decide (powR n))]) ∧ OwnSn w' w.heap.size v1 v2 v3 v4 (nwS n) ∧ Below w.heap.size w w' := by
  have X0 := RowS.new w zeroS (.slice none 0 0) (.slice none 0 0) (.slice none 0 0) (.slice none 0 0)
  have HX : Hid (RowS (w.alloc (.cells (snC 0 0 0 0 (.slice none 0 0) (.slice none 0 0) (.slice none 0 0) (.slice none 0 0) 0 0 0 0) 29)) w.heap.size zeroS (.slice none 0 0) (.slice none 0 0) (.slice none 0 0) (.slice none 0 0)) := LH X0
  have HB : Hid (Below w.heap.size w (w.alloc (.cells (snC 0 0 0 0 (.slice none 0 0) (.slice none 0 0) (.slice none 0 0) (.slice none 0 0) 0 0 0 0) 29))) := LH ((Below.refl _ _).alloc (Nat.le_refl _) _)
  have HZ : Hid ((w.alloc (.cells (snC 0 0 0 0 (.slice none 0 0) (.slice none 0 0) (.slice none 0 0) (.slice none 0 0) 0 0 0 0) 29)).heap.size = w.heap.size + 1) := LH (by simp)
  have HNR := LH fun W => inewrn n W
  clear X0
  have HE4 : Hid (∀ (W : World) (v : Value) (l : List Int) (K : Nat), OwnK W K v l → OwnS W K v (.slice none 0 0) (.slice none 0 0) (.slice none 0 0) l [] [] []) := LH fun W v l K h => ⟨⟨h, OwnP.empty, OwnP.empty, OwnP.empty⟩, ⟨Apart.symm (.inl rfl), Apart.symm (.inl rfl), Apart.symm (.inl rfl)⟩, ⟨.inl rfl, .inl rfl⟩, .inl rfl⟩
  by_cases hp : powR n
  · skip
    rw [show nwS n = ⟨0, nwR n, [], [], [], -1, 0, 0, 0⟩ from if_pos hp, decide_eq_true hp]
    rw [decide_eq_true hp] at HNR
    generalize nwR n = R at *
    clear hp
    go_enter Tryz.func6, Tryz.ntmps6
    go_upto_region 1 with fail
    generalize w.alloc (.cells (snC 0 0 0 0 (.slice none 0 0) (.slice none 0 0) (.slice none 0 0) (.slice none 0 0) 0 0 0 0) 29) = w1 at *
    go_wp2_with fail
    refine (HNR.out _).mono ?_
    rintro e w2 ⟨v, rfl, ho, hb⟩
    obtain ⟨A9, d9, rfl, _, _⟩ := ho.frs
    have HX2 := LH (HX.out.below hb (by have := HZ.out; omega))
    have HB2 := LH (HB.out.trans (hb.mono HB.out.size))
    have HO2 := LH (ho.weaken (Nat.le_of_eq HZ.out.symm))
    clear ho hb
    go_upto_region 2 with fail
    have HN := LH (BoxN.new w2 R.size R.base R.en (.slice A9 R.cs.length d9))
    have HX3 := LH (HX2.out.alloc (.cells (rnC R.size R.base R.en (.slice A9 R.cs.length d9)) 26))
    have HB3 := LH (HB2.out.alloc HB2.out.size (.cells (rnC R.size R.base R.en (.slice A9 R.cs.length d9)) 26))
    have HO3 := LH (HO2.out.alloc (.cells (rnC R.size R.base R.en (.slice A9 R.cs.length d9)) 26))
    generalize w2.alloc (.cells (rnC R.size R.base R.en (.slice A9 R.cs.length d9)) 26) = w3 at *
    generalize w2.heap.size = gr at *
    clear HX HX2 HB HB2 HO2 HNR
    obtain ⟨y0, y1, y2, y3⟩ := HN.out.cells
    obtain ⟨q0, q1, q2, q3, q4, q5, q6, q7, q8, q9, q10, q11⟩ := HX3.out.cells
    have qf := HX3.out.free
    go_wp2
    have X := laidS_row HX3.out (⟨0, R, [], [], [], -1, 0, 0, 0⟩ : Sn) (.slice A9 R.cs.length d9) (.slice none 0 0) (.slice none 0 0) (.slice none 0 0)
    have Y := laidS_own (HE4.out _ _ _ _ HO3.out) (Nat.lt_succ_self _) (⟨0, R, [], [], [], -1, 0, 0, 0⟩ : Sn) (.slice A9 R.cs.length d9) (.slice none 0 0) (.slice none 0 0) (.slice none 0 0)
    have Z := laidS_below HB3.out (Nat.le_refl _) (⟨0, R, [], [], [], -1, 0, 0, 0⟩ : Sn) (.slice A9 R.cs.length d9) (.slice none 0 0) (.slice none 0 0) (.slice none 0 0)
    refine bodyPost_ret (results_ct rfl _ _ w.heap.size _ _ _ _ rfl X Tryz.underlying29 rfl (by kernel_rfl)) rfl ?_
    exact ⟨_, _, _, _, rfl, Y.weaken (Nat.le_succ _), Z⟩
  · skip
    rw [show nwS n = ⟨0, ⟨0, 0, 0, []⟩, [], [], [], 0, 0, 0, 0⟩ from if_neg hp, decide_eq_false hp]
    rw [decide_eq_false hp] at HNR
    generalize nwR n = R at *
    clear hp
    go_enter Tryz.func6, Tryz.ntmps6
    go_upto_region 1 with fail
    generalize w.alloc (.cells (snC 0 0 0 0 (.slice none 0 0) (.slice none 0 0) (.slice none 0 0) (.slice none 0 0) 0 0 0 0) 29) = w1 at *
    go_wp2_with fail
    refine (HNR.out _).mono ?_
    rintro e w2 ⟨v, rfl, ho, hb⟩
    obtain ⟨A9, d9, rfl, _, _⟩ := ho.frs
    have HX2 := LH (HX.out.below hb (by have := HZ.out; omega))
    have HB2 := LH (HB.out.trans (hb.mono HB.out.size))
    have HO2 := LH (ho.weaken (Nat.le_of_eq HZ.out.symm))
    clear ho hb
    go_upto_region 2 with fail
    have HN := LH (BoxN.new w2 R.size R.base R.en (.slice A9 R.cs.length d9))
    have HX3 := LH (HX2.out.alloc (.cells (rnC R.size R.base R.en (.slice A9 R.cs.length d9)) 26))
    have HB3 := LH (HB2.out.alloc HB2.out.size (.cells (rnC R.size R.base R.en (.slice A9 R.cs.length d9)) 26))
    have HO3 := LH (HO2.out.alloc (.cells (rnC R.size R.base R.en (.slice A9 R.cs.length d9)) 26))
    generalize w2.alloc (.cells (rnC R.size R.base R.en (.slice A9 R.cs.length d9)) 26) = w3 at *
    generalize w2.heap.size = gr at *
    clear HX HX2 HB HB2 HO2 HNR
    obtain ⟨y0, y1, y2, y3⟩ := HN.out.cells
    obtain ⟨q0, q1, q2, q3, q4, q5, q6, q7, q8, q9, q10, q11⟩ := HX3.out.cells
    have qf := HX3.out.free
    go_wp2
    have X := laidS_row HX3.out (zeroS : Sn) (.slice none 0 0) (.slice none 0 0) (.slice none 0 0) (.slice none 0 0)
    have Y := laidS_own (HE4.out w3 _ _ (w.heap.size + 1) OwnK.empty) (Nat.lt_succ_self _) (zeroS : Sn) (.slice none 0 0) (.slice none 0 0) (.slice none 0 0) (.slice none 0 0)
    have Z := laidS_below HB3.out (Nat.le_refl _) (zeroS : Sn) (.slice none 0 0) (.slice none 0 0) (.slice none 0 0) (.slice none 0 0)
    refine bodyPost_ret (results_ct rfl _ _ w.heap.size _ _ _ _ rfl X Tryz.underlying29 rfl (by kernel_rfl)) rfl ?_
    exact ⟨_, _, _, _, rfl, Y.weaken (Nat.le_succ _), Z⟩
end Go.Proofs.YtdaoaedkjoknmaaGreat
