/-
  Contracts and lemmas for the law on draining.
-/
import Derived.Test.YtdaoaedkjoknmaaGreatDrZ0
import Derived.Test.YtdaoaedkjoknmaaGreatDrZ8
import Derived.Test.YtdaoaedkjoknmaaGreatDrZ1
set_option maxRecDepth 1000000
set_option maxHeartbeats 8000000
namespace Go.Proofs.YtdaoaedkjoknmaaGreat
open Go.RowKit Go.Deep Go.Proofs.YtdaoaedkjoknmaaGreat.Num

theorem OwnK.addr {w : World} {base : Nat} {A : Option Addr} {n c : Nat} {zs : List Int} (h : OwnK w base (.slice A n c) zs) (h0 : 0 < zs.length) : ∃ g off, A = some ⟨g, off, none⟩ ∧ MidI w base g off zs := by
  rcases h with ⟨_, rfl⟩ | ⟨g, off, cap, e, hle, h⟩
  · cases h0
  · injection e with e1 _ _
    exact ⟨g, off, e1, h⟩
theorem OwnK.set {w : World} {base g off n c : Nat} {zs : List Int} (h : OwnK w base (.slice (some ⟨g, off, none⟩) n c) zs) (k : Nat) (hk : k < zs.length) (x : Int) : OwnK (w.setCell ⟨g, off + k, none⟩ (.int .i64 x)) base (.slice (some ⟨g, off, none⟩) n c) (zs.set k x) := by
  rcases h with ⟨_, rfl⟩ | ⟨g', off', cap, e, hle, h⟩
  · cases hk
  · injection e with e1 e2 e3
    injection e1 with e1
    injection e1 with e1 e4
    subst e1 e4 e2 e3
    exact .inr ⟨g, off, c, by rw [List.length_set], by rw [List.length_set]; exact hle, h.store k hk x⟩
structure FrN (w : World) (r : Rn) (A : Option Addr) (cap gx : Nat) (x : Rn) (u : Value) (W : World) : Prop where
  i : IrN w r (.slice A r.cs.length cap) W
  b : BoxN W gx x.size x.base x.en u
  own : OwnK W (w.heap.size + 2) u x.cs
  lt : w.heap.size + 1 < gx
  ne : ∀ k, u.ownBlock = some k → k ≠ gx
theorem FrN.start {w w3 : World} {r : Rn} {A : Option Addr} {cap : Nat} {v : Value} (hi : IrN w r (.slice A r.cs.length cap) w3) (own : OwnK w3 (w.heap.size + 2) v r.cs) (hz : w.heap.size + 1 < w3.heap.size) :
    FrN w r A cap w3.heap.size r v (w3.alloc (.cells (rnC r.size r.base r.en v) 26)) :=
  ⟨hi.alloc _, BoxN.new w3 _ _ _ _, own.alloc _, hz, fun k hk => by have := (own.lt k hk).2; omega⟩
theorem FrN.next {w : World} {r : Rn} {A : Option Addr} {cap gx : Nat} {x : Rn} {u : Value} {W W' : World} (h : FrN w r A cap gx x u W) (hb : Below W.heap.size W W') : FrN w r A cap gx x u W' :=
  ⟨h.i.next hb, h.b.below hb h.b.lt, h.own.later hb, h.lt, h.ne⟩
theorem FrN.drew {w : World} {r : Rn} {A : Option Addr} {cap gx : Nat} {x : Rn} {u : Value} {W : World} (h : FrN w r A cap gx x u W) : FrN w r A cap gx x u W.drew := h.next (Below.refl _ _).drew
theorem IrN.apart {w : World} {x : Rn} {u : Value} {W : World} (h : IrN w x u W) (g k : Nat) (y : Value) (hg : w.heap.size + 2 ≤ g) : IrN w x u (W.setCell ⟨g, k, none⟩ y) :=
  ⟨h.b.other g k y (by omega), h.o.other g k y (by omega), h.bl.setCell (p := ⟨g, k, none⟩) (by show w.heap.size ≤ g; omega) y⟩
theorem FrN.set {w : World} {r : Rn} {A : Option Addr} {cap gx : Nat} {x : Rn} {g off n c : Nat} {W : World} (h : FrN w r A cap gx x (.slice (some ⟨g, off, none⟩) n c) W) (k : Nat) (hk : k < x.cs.length) (z : Int) :
    FrN w r A cap gx ⟨x.size, x.base, x.en, x.cs.set k z⟩ (.slice (some ⟨g, off, none⟩) n c) (W.setCell ⟨g, off + k, none⟩ (.int .i64 z)) := by
  have h1 := (h.own.lt g rfl).1
  have h2 := h.ne g rfl
  exact ⟨h.i.apart g (off + k) _ h1, h.b.other g (off + k) _ (fun e => h2 e.symm), h.own.set k hk z, h.lt, h.ne⟩
theorem FrN.putn {w : World} {r : Rn} {A : Option Addr} {cap gx : Nat} {x x' : Rn} {u : Value} {W : World} (h : FrN w r A cap gx x u W) (k : Nat) (y : Value) (hb : BoxN (W.setCell ⟨gx, k, none⟩ y) gx x'.size x'.base x'.en u) (hc : x'.cs = x.cs) :
    FrN w r A cap gx x' u (W.setCell ⟨gx, k, none⟩ y) := by
  refine ⟨h.i.apart gx k y h.lt, hb, ?_, h.lt, h.ne⟩
  rw [hc]
  refine h.own.kept (only_setI W gx k y) ?_
  cases hv : u.ownBlock with
  | none => exact .inl rfl
  | some q => exact .inr (fun e => h.ne q hv (by injection e))
theorem FrN.put2 {w : World} {r : Rn} {A : Option Addr} {cap gx : Nat} {x : Rn} {u : Value} {W : World} (h : FrN w r A cap gx x u W) (y : Int) : FrN w r A cap gx ⟨x.size, x.base, y, x.cs⟩ u (W.setCell ⟨gx, 2, none⟩ (.int .i64 y)) := h.putn (x' := ⟨x.size, x.base, y, x.cs⟩) 2 _ (h.b.set2 y) rfl
theorem tmod_at {sz k : Int} (hs : 1 ≤ sz) (hk : 0 ≤ k) : k.tmod sz = ((atR sz k : Nat) : Int) := by
  rw [(atR_lt hs k).2]
  exact Int.tmod_eq_emod_of_nonneg hk

theorem swrite (r : Rn) (d : ByteArray) (A : Option Addr) (cap B : Nat) (w : World) (hB : B ≤ w.heap.size) (hr : Ints w B A r.cs) (hn : r.cs.length ≤ 1000000000) (hx : inRn r) (hd : d.size ≤ 1000000000) :
    Calls Tryz.prog 34 #[rnV r (.slice A r.cs.length cap), .string d] w fun e w' => ∃ v, e = .returned (.tuple #[rnV (wrR r d) v, .int .i64 (cntW r d : Nat)]) ∧ OwnK w' w.heap.size v (wrR r d).cs ∧ Below w.heap.size w w' := by
  have HH := LH (IrN.start w r (.slice A r.cs.length cap))
  have HCP : Hid (∀ W, Below w.heap.size w W → Calls Tryz.prog 93 #[rnV r (.slice A r.cs.length cap)] W fun e w' => ∃ v, e = .returned (rnV r v) ∧ OwnK w' W.heap.size v r.cs ∧ Below W.heap.size W w') := LH fun W h => scopyn r A cap B W (Nat.le_trans hB h.size) (hr.below hB h) hn
  have HRO : Hid (∀ W, Below w.heap.size w W → Calls Tryz.prog 95 #[rnV r (.slice A r.cs.length cap)] W fun e w' => e = .returned (.int .i64 (roomR r)) ∧ Below W.heap.size W w') := LH fun W h => sroom r A cap B W (Nat.le_trans hB h.size) (hr.below hB h) hn hx
  have hcn := cntW_in r d
  have hmin : (if (d.size : Int) < roomR r then (d.size : Int) else roomR r) = (cntW r d : Int) := by rw [hcn]; split <;> omega
  have HMN := LH hmin
  have hc64 : cntW r d ≤ 64 := by have := (roomR_in r).2; omega
  have hcd : cntW r d ≤ d.size := by omega
  have HSZ : Hid (0 < cntW r d → 1 ≤ r.size ∧ (r.cs.length : Int) = r.size ∧ 0 ≤ r.en ∧ r.en + (cntW r d : Int) ≤ 4611686018427387903) := LH (fun h0 => by
    by_cases hok : okRn r
    · have h1 := hok.1.lo
      have h3 := wrR_ok d hok
      have h4 : r.en + (cntW r d : Int) ≤ 4611686018427387903 := h3.2.2.2.2.2.1
      exact ⟨h1.1, hok.2.1, by have := hok.2.2.1; have := hok.2.2.2.1; omega, h4⟩
    · rw [cntW_bad d hok] at h0; omega)
  have hen : wrap64 (r.en + (cntW r d : Int)) = r.en + (cntW r d : Int) := by
    have h1 := hx.2.2
    by_cases h0 : 0 < cntW r d
    · have h2 := (HSZ.out h0).2.2
      clear hx; unfold wrap64; omega
    · clear hx; unfold wrap64; omega
  have HEN := LH hen
  unfold wrR
  generalize cntW r d = n at *
  clear hr hn hx hcn hmin hen
  go_enter Tryz.func34, Tryz.ntmps34
  obtain ⟨a0, a1, a2, a3⟩ := HH.out.b.cells
  go_wp2_with fail
  refine (HCP.out _ HH.out.bl).mono ?_
  rintro e w3 ⟨v, rfl, ho, hb⟩
  have HF := LH (FrN.start (HH.out.next hb) (ho.weaken HH.out.o.lt) (Nat.lt_of_lt_of_le HH.out.o.lt hb.size))
  obtain ⟨A3, c3, rfl, _, _⟩ := ho.frs
  clear ho hb a0 a1 a2 a3
  go_upto_region 2 with fail
  generalize w3.alloc (.cells (rnC r.size r.base r.en (.slice A3 r.cs.length c3)) 26) = w4 at *
  generalize w3.heap.size = gx at *
  obtain ⟨a0, a1, a2, a3⟩ := HF.out.i.b.cells
  go_wp2_with fail
  refine (HRO.out _ HF.out.i.bl).mono ?_
  rintro e w5 ⟨rfl, hb5⟩
  have HF := LH (HF.out.next hb5)
  clear hb5 a0 a1 a2 a3
  go_upto_region 3 with fail
  rw [HMN.out]
  generalize roomR r = rm at *
  clear HMN HRO HCP
  go_wp2
  go_loopw [8] (fun i wr => ∃ j : Nat, j ≤ n ∧ i = .int .i64 j ∧ FrN w r A cap gx ⟨r.size, r.base, r.en, putR r.size r.en d r.cs j⟩ (.slice A3 r.cs.length c3) wr) (fun i _ => n - (intOf i).toNat)
  case atStart => exact ⟨0, Nat.zero_le _, rfl, HF.out⟩
  case round =>
    obtain ⟨j, hj, rfl, hf⟩ := hrel
    have HF := LH hf
    clear hf
    obtain ⟨a0, a1, a2, a3⟩ := HF.out.i.b.cells
    obtain ⟨x0, x1, x2, x3⟩ := HF.out.b.cells
    simp only at x0 x1 x2 x3
    by_cases hlt : j < n
    · obtain ⟨z1, z2, z3, z4⟩ := HSZ.out (by omega)
      have hln : (putR r.size r.en d r.cs j).length = r.cs.length := putR_len _ _ _ _ _
      obtain ⟨g, off, rfl, hm⟩ := HF.out.own.addr (show 0 < (putR r.size r.en d r.cs j).length by omega)
      have hat := atR_lt z1 (r.en + (j : Int))
      have hkl : atR r.size (r.en + (j : Int)) < (putR r.size r.en d r.cs j).length := by omega
      have hcell := hm.cell _ hkl
      have hfz := hm.free (off + atR r.size (r.en + (j : Int)))
      have hsum : IntKind.i64.wrap (r.en + (j : Int)) = r.en + (j : Int) := by rw [IntKind.wrap_i64]; omega
      have hrem := tmod_at z1 (show 0 ≤ r.en + (j : Int) by omega)
      have hdj : j < d.size := by omega
      have hcv : IntKind.i64.wrap ((d[j].toNat : Nat) : Int) = ((d[j].toNat : Nat) : Int) := by
        have := d[j].toNat_lt
        rw [IntKind.wrap_i64]; omega
      have hsz0 : (r.size == 0) = false := by
        have : r.size ≠ 0 := by omega
        simpa using this
      have HST := LH (HF.out.set _ hkl ((d[j].toNat : Nat) : Int))
      have HPU : Hid ((putR r.size r.en d r.cs j).set (atR r.size (r.en + (j : Int))) ((d[j].toNat : Nat) : Int) = putR r.size r.en d r.cs (j + 1)) := LH (by rw [← byt8_at d j hdj]; rfl)
      have hkl2 : atR r.size (r.en + (j : Int)) < r.cs.length := by omega
      generalize (putR r.size r.en d r.cs j)[atR r.size (r.en + (j : Int))] = y at hcell
      dsimp only at HST
      rw [HPU.out] at HST
      generalize atR r.size (r.en + (j : Int)) = k at *
      clear hat hkl hm hln HPU z2 z3 z4
      go_upto_region 6 with fail
      go_region
      have HD := LH (FrN.drew HST.out)
      generalize (wr.setCell ⟨g, off + k, none⟩ (.int .i64 ((d[j].toNat : Nat) : Int))).drew = wd at *
      go_wp2
      go_roundw
      case rel => exact ⟨j + 1, hlt, by go_num, HD.out⟩
      case measure => simp [intOf]; omega
    · obtain rfl : j = n := by omega
      have hen := HEN.out
      have xf := HF.out.b.free
      go_upto_region 8 with fail
      have HF := LH (HF.out.put2 (r.en + (j : Int)))
      clear a0 a1 a2 a3 x0 x1 x2 x3 xf hen
      generalize wr.setCell ⟨gx, 2, none⟩ (.int .i64 (r.en + (j : Int))) = w6 at *
      obtain ⟨x0, x1, x2, x3⟩ := HF.out.b.cells
      simp only at x0 x1 x2 x3
      obtain ⟨p0, p1, p2, p3⟩ := HF.out.i.o.cells
      have pf := HF.out.i.o.free
      go_wp2
      have X := HF.out.i.out r.size r.base (r.en + (j : Int)) (.slice A3 r.cs.length c3) _ HF.out.own
      refine bodyPost_ret (results_ct rfl _ _ (w.heap.size + 1) _ _ _ _ rfl X.1 Tryz.underlying26 rfl (by kernel_rfl)) rfl ?_
      exact ⟨_, rfl, X.2.1, X.2.2⟩

end Go.Proofs.YtdaoaedkjoknmaaGreat
