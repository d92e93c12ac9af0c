/-
  What spec.DrawEqualRings returns: two small rings.
-/
import Derived.Test.YtkhekbfakloaoaaDrawN2
namespace Go.Proofs.Ytkhekbfakloaoaa
open Go.RowKit Go.Deep Go.Proofs.Ytkhekbfakloaoaa.Num

set_option maxRecDepth 100000 in
set_option maxHeartbeats 4000000 in
/-- spec.DrawEqualRings -/
theorem draw_eqn (A : Option Addr) (len cap : Nat) (w : World) (hlen : len ≤ maxLen) (hcode : Code w w.heap.size A len) :
    Calls Try.prog 29 #[.slice A len cap] w fun e w' => ∃ (r s : Rn) (v v' : Value), e = .returned (.tuple #[rnV r v, rnV s v']) ∧ smallRn r ∧ smallRn s ∧ OwnK w' w.heap.size v r.cs ∧ OwnK w' w.heap.size v' s.cs ∧ Below w.heap.size w w' := by
  have HC := Lib.hid hcode
  have Xa := BoxN.new w 0 0 0 (.slice none 0 0)
  have Ba := (Below.refl w.heap.size w).alloc (Nat.le_refl _) (.cells (rnC 0 0 0 (.slice none 0 0)) 26)
  have hSa : (w.alloc (.cells (rnC 0 0 0 (.slice none 0 0)) 26)).heap.size = w.heap.size + 1 := by simp
  obtain ⟨wa, hwa⟩ : ∃ wa, w.alloc (.cells (rnC 0 0 0 (.slice none 0 0)) 26) = wa := ⟨_, rfl⟩
  rw [hwa] at Xa Ba hSa
  have X0 := BoxN.new wa 0 0 0 (.slice none 0 0)
  have hS0 : (wa.alloc (.cells (rnC 0 0 0 (.slice none 0 0)) 26)).heap.size = w.heap.size + 2 := by simp; omega
  have B0 := (Below.refl wa.heap.size wa).alloc (Nat.le_refl _) (.cells (rnC 0 0 0 (.slice none 0 0)) 26)
  have hCC : Code (wa.alloc (.cells (rnC 0 0 0 (.slice none 0 0)) 26)) (wa.alloc (.cells (rnC 0 0 0 (.slice none 0 0)) 26)).heap.size A len := Code.later HC.out (Ba.trans (B0.mono (by omega)))
  rw [hSa] at X0 B0
  have HX0 := Lib.hid X0
  have HB0 := Lib.hid B0
  have HS0 := Lib.hid hS0
  have HCC := Lib.hid hCC
  have HXa := Lib.hid Xa
  have HBa := Lib.hid Ba
  have HSa := Lib.hid hSa
  have HWA := Lib.hid hwa
  clear hcode Xa Ba hSa hwa X0 B0 hS0 hCC
  go_enter Try.func29, Try.ntmps29
  go_upto_region 1 with fail
  rw [HWA.out]
  clear HWA
  generalize wa.alloc (.cells (rnC 0 0 0 (.slice none 0 0)) 26) = w0 at *
  go_wp2_with fail
  have hdn := dnew A len cap w0 hlen HCC.out
  refine hdn.mono ?_
  clear hdn
  rintro e w1 ⟨g, rfl, hg, d1, b1⟩
  rw [HS0.out] at hg d1
  have X1 := Lib.hid (HX0.out.below b1 HX0.out.lt)
  have D1 : Hid (Draw w1 g (w.heap.size + 1 + 1) A len cap) := Lib.hid d1
  have B1 := Lib.hid (HB0.out.trans (b1.mono (Nat.le_of_lt HX0.out.lt)))
  clear b1 d1 HX0 HB0 HCC HS0
  go_wp2_with fail
  refine (d8ring g _ A len cap w1 D1.out).mono ?_
  rintro e w2 ⟨r, v, rfl, hsm, ho, d2, g2⟩
  have hgl := D1.out.lt
  have HSM := Lib.hid hsm
  have X2 := Lib.hid (X1.out.only g2 (by omega))
  have hl1 := X1.out.lt
  have B2 := Lib.hid (B1.out.trans (only_below g2 (by omega) (by omega)))
  have hsz2 := g2.size
  obtain ⟨A2, c2, rfl, _, _⟩ := ho.frs
  have HD3 := Lib.hid (DWN.new (w := wa) (k0 := w.heap.size + 1) X2.out ho d2 B2.out (by omega) hgl hsz2)
  clear ho d2 g2 X1 D1 B1 X2 B2 hsm
  go_upto_region 3 with fail
  generalize w2.alloc (.cells (rnC r.size r.base r.en (.slice A2 r.cs.length c2)) 26) = w3 at *
  generalize w2.heap.size = k3 at *
  go_wp2_with fail
  refine (donce 2 (by decide) (by decide) g _ A len cap _ HD3.out.d).mono ?_
  rintro e w4 ⟨c, rfl, d4, g4⟩
  have HD4 := Lib.hid (HD3.out.drawn g4 d4)
  clear d4 g4 HD3
  have hk1 : k3 ≠ w.heap.size := by have h1 := HD4.out.l1; have h2 := HD4.out.l2; have h3 := HD4.out.l3; omega
  have hk2 : k3 ≠ w.heap.size + 1 := by have h1 := HD4.out.l1; have h2 := HD4.out.l2; have h3 := HD4.out.l3; omega
  obtain ⟨p0, p1, p2, p3⟩ := HD4.out.b.cells
  have HCZ : Hid (∀ W, CellN W k3 r (.slice A2 r.cs.length c2) → W.cell? ⟨k3, 0, none⟩ = some (.int .i64 r.size) ∧ W.cell? ⟨k3, 1, none⟩ = some (.int .i64 r.base) ∧ W.cell? ⟨k3, 2, none⟩ = some (.int .i64 r.en) ∧ W.cell? ⟨k3, 3, none⟩ = some (.slice A2 r.cs.length c2)) := Lib.hid fun W h => h
  have HK0 := Lib.hid (HCZ.out _ HD4.out.drew.b.cells)
  cases c with
  | true =>
    have HT := Lib.hid (scopyn r A2 c2 w4.drew.heap.size w4.drew (Nat.le_refl _) HD4.out.drew.own.chs (by have := HSM.out.1; omega))
    go_upto_region 4 with fail
    go_region_held3 (fun W => W.cell? ⟨k3, 0, none⟩ = some (.int .i64 r.size) ∧ W.cell? ⟨k3, 1, none⟩ = some (.int .i64 r.base) ∧ W.cell? ⟨k3, 2, none⟩ = some (.int .i64 r.en) ∧ W.cell? ⟨k3, 3, none⟩ = some (.slice A2 r.cs.length c2)) (first | with_reducible exact HK0.out | with_reducible exact HK1.out | with_reducible exact HK3.out | with_reducible exact HK5.out | with_reducible exact HK2.out | with_reducible exact HK4.out) (first | (go_at_call 43; refine HT.out.mono ?_; rintro e w5 ⟨v5, rfl, ho5, hb5⟩; have HD5 := Lib.hid (HD4.out.drew.next hb5);  obtain ⟨A5, c5, rfl, _, _⟩ := ho5.frs; have HO5 := Lib.hid ho5; have HX5 := Lib.hid (HXa.out.below HD5.out.bl (by omega)); obtain ⟨q0, q1, q2, q3⟩ := HX5.out.cells; have qf := HX5.out.free; have HX6 := Lib.hid HD5.out.o; obtain ⟨r0, r1, r2, r3⟩ := HX6.out.cells; have rf := HX6.out.free; have HK1 := Lib.hid (HCZ.out _ HD5.out.b.cells); have HK2 := Lib.hid (HCZ.out _ (HD5.out.b.put4_other w.heap.size r.size r.base r.en (.slice A2 r.cs.length c2) hk1).cells); dsimp only [put4] at HK2; have HK3 := Lib.hid (HCZ.out _ ((HD5.out.b.put4_other w.heap.size r.size r.base r.en (.slice A2 r.cs.length c2) hk1).put4_other (w.heap.size + 1) r.size r.base r.en (.slice A5 r.cs.length c5) hk2).cells); dsimp only [put4] at HK3; have HK4 := Lib.hid (HCZ.out _ (HD5.out.b.put4_other (w.heap.size + 1) r.size r.base r.en (.slice A5 r.cs.length c5) hk2).cells); dsimp only [put4] at HK4; have HK5 := Lib.hid (HCZ.out _ ((HD5.out.b.put4_other (w.heap.size + 1) r.size r.base r.en (.slice A5 r.cs.length c5) hk2).put4_other w.heap.size r.size r.base r.en (.slice A2 r.cs.length c2) hk1).cells); dsimp only [put4] at HK5; clear ho5 hb5))
    all_goals go_wp2
    all_goals (
      have hl1 := HD4.out.l1
      have hl2 := HD4.out.l2
      have hl3 := HD4.out.l3
      have hl4 : k3 < w4.drew.heap.size := HD4.out.b.lt
      have hq : w.heap.size ≤ w.heap.size + 1 := Nat.le_succ _
      have Y5 := ((HX5.out.put4 r.size r.base r.en (.slice A2 r.cs.length c2)).put4_other (w.heap.size + 1) r.size r.base r.en (.slice A5 r.cs.length c5) (by omega))
      have Y6 := ((HX6.out.put4_other w.heap.size r.size r.base r.en (.slice A2 r.cs.length c2) (by omega)).put4 r.size r.base r.en (.slice A5 r.cs.length c5))
      refine bodyPost_ret (results_cc rfl _ _ w.heap.size (w.heap.size + 1) _ _ _ _ _ _ _ rfl Y5 rfl Y6 Try.underlying26 rfl (by kernel_rfl) (by kernel_rfl)) rfl ?_
      refine ⟨r, r, _, _, rfl, HSM.out, HSM.out, ?_, ?_, ?_⟩
      · exact ((HD5.out.own.put4 w.heap.size _ _ _ _ (fun j hj => by have := (HD5.out.own.lt j hj).1; omega)).put4 (w.heap.size + 1) _ _ _ _ (fun j hj => by have := (HD5.out.own.lt j hj).1; omega)).weaken (by omega)
      · exact ((HO5.out.put4 w.heap.size _ _ _ _ (fun j hj => by have := (HO5.out.lt j hj).1; omega)).put4 (w.heap.size + 1) _ _ _ _ (fun j hj => by have := (HO5.out.lt j hj).1; omega)).weaken (by omega)
      · exact below_put4 (below_put4 (HBa.out.trans (HD5.out.bl.mono hq)) w.heap.size _ _ _ _ (Nat.le_refl _)) (w.heap.size + 1) _ _ _ _ hq)
  | false =>
    have HT := Lib.hid (d8ring g _ A len cap w4.drew HD4.out.drew.d)
    go_upto_region 5 with fail
    go_region_held3 (fun W => W.cell? ⟨k3, 0, none⟩ = some (.int .i64 r.size) ∧ W.cell? ⟨k3, 1, none⟩ = some (.int .i64 r.base) ∧ W.cell? ⟨k3, 2, none⟩ = some (.int .i64 r.en) ∧ W.cell? ⟨k3, 3, none⟩ = some (.slice A2 r.cs.length c2)) (first | with_reducible exact HK0.out | with_reducible exact HK1.out | with_reducible exact HK3.out | with_reducible exact HK5.out | with_reducible exact HK2.out | with_reducible exact HK4.out) (first | (go_at_call 37; refine HT.out.mono ?_; rintro e w5 ⟨r5, v5, rfl, hsm5, ho5, d5, g5⟩; have HD5 := Lib.hid (HD4.out.drew.drawn g5 d5); have HSM5 := Lib.hid hsm5; obtain ⟨A5, c5, rfl, _, _⟩ := ho5.frs; have HO5 := Lib.hid ho5; have HX5 := Lib.hid (HXa.out.below HD5.out.bl (by omega)); obtain ⟨q0, q1, q2, q3⟩ := HX5.out.cells; have qf := HX5.out.free; have HX6 := Lib.hid HD5.out.o; obtain ⟨r0, r1, r2, r3⟩ := HX6.out.cells; have rf := HX6.out.free; have HK1 := Lib.hid (HCZ.out _ HD5.out.b.cells); have HK2 := Lib.hid (HCZ.out _ (HD5.out.b.put4_other w.heap.size r.size r.base r.en (.slice A2 r.cs.length c2) hk1).cells); dsimp only [put4] at HK2; have HK3 := Lib.hid (HCZ.out _ ((HD5.out.b.put4_other w.heap.size r.size r.base r.en (.slice A2 r.cs.length c2) hk1).put4_other (w.heap.size + 1) r5.size r5.base r5.en (.slice A5 r5.cs.length c5) hk2).cells); dsimp only [put4] at HK3; have HK4 := Lib.hid (HCZ.out _ (HD5.out.b.put4_other (w.heap.size + 1) r5.size r5.base r5.en (.slice A5 r5.cs.length c5) hk2).cells); dsimp only [put4] at HK4; have HK5 := Lib.hid (HCZ.out _ ((HD5.out.b.put4_other (w.heap.size + 1) r5.size r5.base r5.en (.slice A5 r5.cs.length c5) hk2).put4_other w.heap.size r.size r.base r.en (.slice A2 r.cs.length c2) hk1).cells); dsimp only [put4] at HK5; clear ho5 hsm5 d5 g5))
    all_goals go_wp2
    all_goals (
      have hl1 := HD4.out.l1
      have hl2 := HD4.out.l2
      have hl3 := HD4.out.l3
      have hl4 : k3 < w4.drew.heap.size := HD4.out.b.lt
      have hq : w.heap.size ≤ w.heap.size + 1 := Nat.le_succ _
      have Y5 := ((HX5.out.put4 r.size r.base r.en (.slice A2 r.cs.length c2)).put4_other (w.heap.size + 1) r5.size r5.base r5.en (.slice A5 r5.cs.length c5) (by omega))
      have Y6 := ((HX6.out.put4_other w.heap.size r.size r.base r.en (.slice A2 r.cs.length c2) (by omega)).put4 r5.size r5.base r5.en (.slice A5 r5.cs.length c5))
      refine bodyPost_ret (results_cc rfl _ _ w.heap.size (w.heap.size + 1) _ _ _ _ _ _ _ rfl Y5 rfl Y6 Try.underlying26 rfl (by kernel_rfl) (by kernel_rfl)) rfl ?_
      refine ⟨r, r5, _, _, rfl, HSM.out, HSM5.out, ?_, ?_, ?_⟩
      · exact ((HD5.out.own.put4 w.heap.size _ _ _ _ (fun j hj => by have := (HD5.out.own.lt j hj).1; omega)).put4 (w.heap.size + 1) _ _ _ _ (fun j hj => by have := (HD5.out.own.lt j hj).1; omega)).weaken (by omega)
      · exact ((HO5.out.put4 w.heap.size _ _ _ _ (fun j hj => by have := (HO5.out.lt j hj).1; omega)).put4 (w.heap.size + 1) _ _ _ _ (fun j hj => by have := (HO5.out.lt j hj).1; omega)).weaken (by omega)
      · exact below_put4 (below_put4 (HBa.out.trans (HD5.out.bl.mono hq)) w.heap.size _ _ _ _ (Nat.le_refl _)) (w.heap.size + 1) _ _ _ _ hq)
end Go.Proofs.Ytkhekbfakloaoaa
