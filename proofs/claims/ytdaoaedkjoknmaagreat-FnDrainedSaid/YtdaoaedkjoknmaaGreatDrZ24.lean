/-
  Contracts and lemmas for the law on draining.
-/
import Derived.Test.YtdaoaedkjoknmaaGreatDrZ0
import Derived.Test.YtdaoaedkjoknmaaGreatDrZ21
set_option maxRecDepth 1000000
set_option maxHeartbeats 8000000
namespace Go.Proofs.YtdaoaedkjoknmaaGreat
open Go.RowKit Go.Deep Go.Proofs.YtdaoaedkjoknmaaGreat.Num Go.MuLone

theorem iwrite (g : Nat) (sz b : Int) (d : ByteArray) (l : List Int) (w : World) (x : StM w g 0 sz l) (h1 : 1 ≤ sz) (h2 : sz ≤ 64) (hb : 0 ≤ b) (hn : b + (d.size : Int) ≤ 4611686018427387903) :
    Calls Tryz.prog 84 #[.pointer (some ⟨g, 0, none⟩), .int .i64 b, .string d] w fun e w' => e = .returned (.tuple #[]) ∧ StM w' g 0 sz (putR sz b d l d.size) ∧ w.grownBy w' (some g) := by
  have H1 := LH (x.lock 1)
  have HG := LH (only_setI w g 0 (.int .i32 1))
  have c0 := x.c0
  have f0 := x.free 0
  have hl64 := x.2
  clear x
  go_enter_defers Tryz.func84, Tryz.ntmps84
  go_wp2_with (go_at_call 127; refine (lock_free muLib ⟨g, 0, none⟩ _ c0 f0).mono ?_; rintro e w' ⟨rfl, rfl⟩)
  clear c0 f0
  generalize w.setCell ⟨g, 0, none⟩ (.int .i32 1) = w1 at *
  go_loopw [16] (fun i wr => ∃ j : Nat, j ≤ d.size ∧ i = .int .i64 j ∧ StM wr g 1 sz (putR sz b d l j) ∧ w.grownBy wr (some g)) (fun i _ => d.size - (intOf i).toNat)
  case atStart => exact ⟨0, Nat.zero_le _, rfl, H1.out, HG.out⟩
  case round =>
    obtain ⟨j, hj, rfl, hst, hgr⟩ := hrel
    have HS := LH hst
    have HR := LH hgr
    clear hst hgr
    by_cases hlt : j < d.size
    · have HCO : Hid (∀ W, Below wr.heap.size wr W → Calls Tryz.prog 129 #[.pointer (some ⟨g, 0, none⟩), .int .i64 (b + (j : Int))] W fun e w' => e = .returned (.pointer (some ⟨g, 3 + atR sz (b + (j : Int)), none⟩)) ∧ Below W.heap.size W w') := LH fun W h => icellof g 1 sz (b + (j : Int)) _ W (HS.out.below h HS.out.lt) h1 h2 (by omega)
      have hsum : IntKind.i64.wrap (b + (j : Int)) = b + (j : Int) := by rw [IntKind.wrap_i64]; omega
      have hat := atR_lt h1 (b + (j : Int))
      have hln : (putR sz b d l j).length = l.length := putR_len _ _ _ _ _
      have hkl : atR sz (b + (j : Int)) < (putR sz b d l j).length := by omega
      have hcv : IntKind.i64.wrap ((d[j].toNat : Nat) : Int) = ((d[j].toNat : Nat) : Int) := by
        have := d[j].toNat_lt
        rw [IntKind.wrap_i64]; omega
      have HZ : Hid ((putR sz b d l j).set (atR sz (b + (j : Int))) ((d[j].toNat : Nat) : Int) = putR sz b d l (j + 1)) := LH (by rw [← byt8_at d j hlt]; rfl)
      generalize atR sz (b + (j : Int)) = k at *
      have HSS : Hid (∀ W, Below wr.heap.size wr W → W.cell? ⟨g, 3 + k, none⟩ = some (.int .i64 (putR sz b d l j)[k]) ∧ (∀ q, W.frozen? ⟨g, q, none⟩ = false) ∧ StM (W.setCell ⟨g, 3 + k, none⟩ (.int .i64 ((d[j].toNat : Nat) : Int))) g 1 sz (putR sz b d l (j + 1)) ∧ w.grownBy (W.setCell ⟨g, 3 + k, none⟩ (.int .i64 ((d[j].toNat : Nat) : Int))) (some g)) := LH fun W h => by
        have hs := HS.out.below h HS.out.lt
        refine ⟨hs.at k hkl, hs.free, ?_, only_moreI (grown_moreN HR.out h) _ _⟩
        have h3 := hs.set k ((d[j].toNat : Nat) : Int)
        rwa [HZ.out] at h3
      generalize (putR sz b d l j)[k] = y at HSS
      clear hat hln hkl
      go_upto_region 5 with fail
      refine wp_region_noPanic ?_
      go_region_with (first | (go_at_call 129; refine (HCO.out _ (Below.refl wr.heap.size wr).drew).mono ?_; rintro e w4 ⟨rfl, hb4⟩; have HB4 := LH ((Below.refl wr.heap.size wr).drew.trans hb4); obtain ⟨hc4, hf4, _⟩ := HSS.out w4 HB4.out; clear hb4))
      all_goals (refine NoPanic.normal ?_)
      all_goals (
        have HN := LH (HSS.out _ HB4.out).2.2
        clear hc4 hf4 hsum hcv)
      all_goals go_wp2
      all_goals go_roundw
      all_goals first | exact ⟨j + 1, hlt, by go_num, HN.out.1, HN.out.2⟩ | (simp [intOf]; omega)
    · obtain rfl : j = d.size := by omega
      have HS3 := LH (HS.out.lock 0)
      have HR3 := LH (only_moreI HR.out 0 (.int .i32 0))
      go_wp2
      refine leaves_cons (f := 128) (args := #[.pointer (some ⟨g, 0, none⟩)]) (by simp) (by simp [go_sem]) ?_
      refine (unlock_deferred muLib ⟨g, 0, none⟩ .returning _ HS.out.c0 (HS.out.free 0)).mono ?_
      rintro e u' w'' ⟨rfl, rfl, rfl⟩
      exact ⟨_, results_none rfl _ _ _, rfl, HS3.out, HR3.out⟩

theorem ilistn (g n : Nat) (l : List Int) (w : World) (x : StM w g 0 (n : Int) l) (hn : n ≤ 64) :
    Calls Tryz.prog 85 #[.pointer (some ⟨g, 0, none⟩)] w fun e w' => ∃ v, e = .returned v ∧ OwnK w' w.heap.size v (l.take n) ∧ w.grownBy w' (some g) := by
  have H1 := LH (x.lock 1)
  have HG := LH (only_setI w g 0 (.int .i32 1))
  have HZ : Hid ((w.setCell ⟨g, 0, none⟩ (.int .i32 1)).heap.size = w.heap.size) := LH (by simp [World.setCell])
  have c0 := x.c0
  have f0 := x.free 0
  have hgw := x.lt
  have hl64 := x.2
  have hlt : (l.take n).length = n := by rw [List.length_take]; omega
  clear x
  go_enter_defers Tryz.func85, Tryz.ntmps85
  go_wp2_with (go_at_call 127; refine (lock_free muLib ⟨g, 0, none⟩ _ c0 f0).mono ?_; rintro e w' ⟨rfl, rfl⟩)
  clear c0 f0
  generalize w.setCell ⟨g, 0, none⟩ (.int .i32 1) = w1 at *
  have c2 := H1.out.c2
  have c2d : w1.drew.cell? ⟨g, 2, none⟩ = some (.int .i64 (n : Int)) := c2
  have hk0 : (0 : Int) ≤ (n : Int) := by omega
  have hk1 : (n : Int) ≤ 64 := by omega
  have hI : Ints w1 w1.heap.size (some ⟨g, 3, none⟩) (l.take n) := fun j hj => ⟨g, 3, rfl, H1.out.lt, (H1.out.at j (by omega)).trans (by rw [List.getElem_take])⟩
  have HCL : Hid (Calls Tryz.prog 126 #[.slice (some ⟨g, 3, none⟩) n 64] w1.drew fun e w' => ∃ v, e = .returned v ∧ OwnI w' w1.drew.heap.size v (l.take n) ∧ Below w1.drew.heap.size w1.drew w') := LH (by
    have h := iclonei (l.take n) (some ⟨g, 3, none⟩) 64 w1.heap.size w1.drew (Nat.le_refl _) (hI.below (Nat.le_refl _) (Below.refl _ _).drew) (by omega)
    rwa [hlt] at h)
  clear hI hlt
  refine wp_region_noPanic ?_
  go_region_with (first | (go_at_call 126; refine HCL.out.mono ?_; rintro e w4 ⟨v, rfl, ho4, hb4⟩; have HO4 := LH ho4.k; have HB4 := LH ((Below.refl w1.heap.size w1).drew.trans hb4); clear ho4 hb4))
  all_goals (refine NoPanic.normal ?_)
  all_goals (
    have HS4 := LH (H1.out.below HB4.out H1.out.lt)
    have HG4 := LH (only_moreI (grown_moreN HG.out HB4.out) 0 (.int .i32 0))
    have HO5 := LH (HO4.out.apart g 0 (.int .i32 0) (by have h := HZ.out; show g < w1.heap.size; omega))
    go_wp2
    refine leaves_cons (f := 128) (args := #[.pointer (some ⟨g, 0, none⟩)]) (by simp) (by simp [go_sem]) ?_
    refine (unlock_deferred muLib ⟨g, 0, none⟩ .returning _ HS4.out.c0 (HS4.out.free 0)).mono ?_
    rintro e u' w'' ⟨rfl, rfl, rfl⟩
    exact ⟨_, results_tmp rfl _ _ _, _, rfl, HO5.out.weaken (by have h := HZ.out; show w.heap.size ≤ w1.heap.size; omega), HG4.out⟩)
end Go.Proofs.YtdaoaedkjoknmaaGreat
