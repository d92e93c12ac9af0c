/-
  The exact law on EqualSenders, walked.
-/
import Derived.Test.YtjohbfdifdjldacLSn5
import Derived.Test.YtjohbfdifdjldacSS11
namespace Go.Proofs.Ytjohbfdifdjldac
open Go.RowKit Go.Deep Go.Proofs.Ytjohbfdifdjldac.Num

/-- Two that came in, boxed. -/
def TwoInS (w : World) (s : Sn) (A1 A2 A3 A4 : Option Addr) (c1 c2 c3 c4 : Nat) (t : Sn) (B1 B2 B3 B4 : Option Addr) (d1 d2 d3 d4 : Nat) (W : World) : Prop :=
  InSn w w.heap.size s A1 A2 A3 A4 c1 c2 c3 c4 W ∧ InSn (w.alloc (.cells (snB s (.slice A1 s.rn.cs.length c1) (.slice A2 s.pe.length c2) (.slice A3 s.fl.length c3) (.slice A4 s.ac.length c4)) 27)) (w.heap.size + 1) t B1 B2 B3 B4 d1 d2 d3 d4 W
theorem TwoInS.start (w : World) (s : Sn) (A1 A2 A3 A4 : Option Addr) (c1 c2 c3 c4 : Nat) (t : Sn) (B1 B2 B3 B4 : Option Addr) (d1 d2 d3 d4 : Nat) (hr : ReadS w w.heap.size A1 A2 A3 A4 s) (hr' : ReadS w w.heap.size B1 B2 B3 B4 t) :
    TwoInS w s A1 A2 A3 A4 c1 c2 c3 c4 t B1 B2 B3 B4 d1 d2 d3 d4 ((w.alloc (.cells (snB s (.slice A1 s.rn.cs.length c1) (.slice A2 s.pe.length c2) (.slice A3 s.fl.length c3) (.slice A4 s.ac.length c4)) 27)).alloc (.cells (snB t (.slice B1 t.rn.cs.length d1) (.slice B2 t.pe.length d2) (.slice B3 t.fl.length d3) (.slice B4 t.ac.length d4)) 27)) := by
  have hs : (w.alloc (.cells (snB s (.slice A1 s.rn.cs.length c1) (.slice A2 s.pe.length c2) (.slice A3 s.fl.length c3) (.slice A4 s.ac.length c4)) 27)).heap.size = w.heap.size + 1 := by simp
  refine ⟨(InSn.start w s A1 A2 A3 A4 c1 c2 c3 c4 _ hr).alloc _, ?_⟩
  rw [← hs]
  exact InSn.start _ t B1 B2 B3 B4 d1 d2 d3 d4 _ ((hr'.below (Nat.le_refl _) ((Below.refl _ _).alloc (Nat.le_refl _) _)).up (by rw [hs]; omega))
theorem TwoInS.next {w : World} {s : Sn} {A1 A2 A3 A4 : Option Addr} {c1 c2 c3 c4 : Nat} {t : Sn} {B1 B2 B3 B4 : Option Addr} {d1 d2 d3 d4 : Nat} {W W' : World} (h : TwoInS w s A1 A2 A3 A4 c1 c2 c3 c4 t B1 B2 B3 B4 d1 d2 d3 d4 W) (hb : Below W.heap.size W W') : TwoInS w s A1 A2 A3 A4 c1 c2 c3 c4 t B1 B2 B3 B4 d1 d2 d3 d4 W' :=
  ⟨h.1.next hb, h.2.next hb⟩

set_option maxRecDepth 100000 in
set_option maxHeartbeats 16000000 in
/-- The law on EqualSenders, of a spec and an impl that answer so. -/
theorem law_EqualSenders (HSP : ∀ (s t : Sn) (A1 A2 A3 A4 B1 B2 B3 B4 : Option Addr) (c1 c2 c3 c4 d1 d2 d3 d4 B : Nat) (w : World), B ≤ w.heap.size → ReadS w B A1 A2 A3 A4 s → ReadS w B B1 B2 B3 B4 t → LenS 1048576 s → LenS 1048576 t → Calls Try.prog 20 #[snV s (.slice A1 s.rn.cs.length c1) (.slice A2 s.pe.length c2) (.slice A3 s.fl.length c3) (.slice A4 s.ac.length c4), snV t (.slice B1 t.rn.cs.length d1) (.slice B2 t.pe.length d2) (.slice B3 t.fl.length d3) (.slice B4 t.ac.length d4)] w fun e w' => e = .returned (.bool (decide (sameSn s t))) ∧ Below w.heap.size w w')
    (HI : ∀ (s t : Sn) (A1 A2 A3 A4 B1 B2 B3 B4 : Option Addr) (c1 c2 c3 c4 d1 d2 d3 d4 B : Nat) (w : World), B ≤ w.heap.size → ReadS w B A1 A2 A3 A4 s → ReadS w B B1 B2 B3 B4 t → LenS 1048576 s → LenS 1048576 t → Calls Try.prog 21 #[snV s (.slice A1 s.rn.cs.length c1) (.slice A2 s.pe.length c2) (.slice A3 s.fl.length c3) (.slice A4 s.ac.length c4), snV t (.slice B1 t.rn.cs.length d1) (.slice B2 t.pe.length d2) (.slice B3 t.fl.length d3) (.slice B4 t.ac.length d4)] w fun e w' => e = .returned (.bool (decide (sameSn s t))) ∧ Below w.heap.size w w')
    (s : Sn) (A1 A2 A3 A4 : Option Addr) (c1 c2 c3 c4 : Nat) (t : Sn) (B1 B2 B3 B4 : Option Addr) (d1 d2 d3 d4 : Nat) (w : World) (hr : ReadS w w.heap.size A1 A2 A3 A4 s) (hn : s.rn.cs.length ≤ maxLen ∧ s.pe.length ≤ maxLen ∧ s.fl.length ≤ maxLen ∧ s.ac.length ≤ maxLen) (hr' : ReadS w w.heap.size B1 B2 B3 B4 t) (hn' : t.rn.cs.length ≤ maxLen ∧ t.pe.length ≤ maxLen ∧ t.fl.length ≤ maxLen ∧ t.ac.length ≤ maxLen) :
    Calls Try.prog 6 #[snV s (.slice A1 s.rn.cs.length c1) (.slice A2 s.pe.length c2) (.slice A3 s.fl.length c3) (.slice A4 s.ac.length c4), snV t (.slice B1 t.rn.cs.length d1) (.slice B2 t.pe.length d2) (.slice B3 t.fl.length d3) (.slice B4 t.ac.length d4)] w fun e w' => e = .returned (.bool true) ∧ Below w.heap.size w w' := by
  have HW := Lib.hid (TwoInS.start w s A1 A2 A3 A4 c1 c2 c3 c4 t B1 B2 B3 B4 d1 d2 d3 d4 hr hr')
  have HZ := Lib.hid (lszs 1048576 (by decide) (by decide) s A1 A2 A3 A4 c1 c2 c3 c4 _ (HW.out.1.2.1.up (Nat.le_of_lt HW.out.1.2.2.1)) (by unfold maxLen at hn; omega))
  have hlow := szS_low 1048576 s (by decide)
  have HLEN := Lib.hid (fun h => szS_ok (N := 1048576) (s := s) (by decide) h)
  have HZ2 : Hid (∀ N, 0 ≤ N → N ≤ 1048576 → ∀ W, TwoInS w s A1 A2 A3 A4 c1 c2 c3 c4 t B1 B2 B3 B4 d1 d2 d3 d4 W → Calls Try.prog 7 #[snV t (.slice B1 t.rn.cs.length d1) (.slice B2 t.pe.length d2) (.slice B3 t.fl.length d3) (.slice B4 t.ac.length d4), .int .i64 N] W fun e w' => e = .returned (.int .i64 (szS N t)) ∧ Below W.heap.size W w') := Lib.hid fun N h0 h1 W hW => lszs N h0 h1 t B1 B2 B3 B4 d1 d2 d3 d4 W (hW.2.2.1.up (Nat.le_of_lt hW.2.2.2.1)) (by unfold maxLen at hn'; omega)
  generalize szS 1048576 s = z at *
  by_cases hneg : z < 0
  · have hd : decide (z < 0) = true := decide_eq_true hneg
    clear hneg hlow hr hr' HI HSP
    go_enter Try.func6, Try.ntmps6
    obtain ⟨a0, a1, a2, a3, a4, a5, a6, a7, a8, a9, a10, a11⟩ := HW.out.1.1
    go_wp2_with fail
    refine HZ.out.mono ?_
    rintro e w1 ⟨rfl, hb1⟩
    have H1 := Lib.hid (HW.out.next hb1)
    clear hb1
    go_wp2
    go_ret
    exact ⟨rfl, H1.out.1.2.2.2⟩
  have hd : decide (z < 0) = false := decide_eq_false hneg
  have hlen : LenS 1048576 s := HLEN.out (by omega)
  have HZ3 := Lib.hid (HZ2.out z (by omega) hlow.2)
  have hlow2 := szS_low z t hlow.2
  have HLEN2 := Lib.hid (fun h => szS_ok (N := z) (s := t) hlow.2 h)
  generalize szS z t = z2 at *
  clear HZ2 HLEN
  by_cases hneg2 : z2 < 0
  · have hd2 : decide (z2 < 0) = true := decide_eq_true hneg2
    clear hneg hneg2 hlow hlow2 hr hr' HI HSP
    go_enter Try.func6, Try.ntmps6
    obtain ⟨a0, a1, a2, a3, a4, a5, a6, a7, a8, a9, a10, a11⟩ := HW.out.1.1
    go_wp2_with fail
    refine HZ.out.mono ?_
    rintro e w1 ⟨rfl, hb1⟩
    have H1 := Lib.hid (HW.out.next hb1)
    clear hb1 a0 a1 a2 a3 a4 a5 a6 a7 a8 a9 a10 a11
    obtain ⟨a0, a1, a2, a3, a4, a5, a6, a7, a8, a9, a10, a11⟩ := H1.out.2.1
    go_wp2_with fail
    refine (HZ3.out _ H1.out).mono ?_
    rintro e w2 ⟨rfl, hb2⟩
    have H2 := Lib.hid (H1.out.next hb2)
    clear hb2
    go_wp2
    go_ret
    exact ⟨rfl, H2.out.1.2.2.2⟩
  have hd2 : decide (z2 < 0) = false := decide_eq_false hneg2
  have hlen2 : LenS 1048576 t := HLEN2.out (by omega)
  have HS : Hid (∀ (g1 g2 g3 g4 k1 k2 k3 k4 : Nat) (W : World), ReadS W W.heap.size (some ⟨g1, 0, none⟩) (some ⟨g2, 0, none⟩) (some ⟨g3, 0, none⟩) (some ⟨g4, 0, none⟩) s → ReadS W W.heap.size (some ⟨k1, 0, none⟩) (some ⟨k2, 0, none⟩) (some ⟨k3, 0, none⟩) (some ⟨k4, 0, none⟩) t → Calls Try.prog 20 #[snV s (.slice (some ⟨g1, 0, none⟩) s.rn.cs.length s.rn.cs.length) (.slice (some ⟨g2, 0, none⟩) s.pe.length s.pe.length) (.slice (some ⟨g3, 0, none⟩) s.fl.length s.fl.length) (.slice (some ⟨g4, 0, none⟩) s.ac.length s.ac.length), snV t (.slice (some ⟨k1, 0, none⟩) t.rn.cs.length t.rn.cs.length) (.slice (some ⟨k2, 0, none⟩) t.pe.length t.pe.length) (.slice (some ⟨k3, 0, none⟩) t.fl.length t.fl.length) (.slice (some ⟨k4, 0, none⟩) t.ac.length t.ac.length)] W fun e w' => e = .returned (.bool (decide (sameSn s t))) ∧ Below W.heap.size W w') := Lib.hid fun g1 g2 g3 g4 k1 k2 k3 k4 W h h' => HSP s t _ _ _ _ _ _ _ _ _ _ _ _ _ _ _ _ W.heap.size W (Nat.le_refl _) h h' hlen hlen2
  have HM : Hid (∀ (g1 g2 g3 g4 k1 k2 k3 k4 : Nat) (W : World), ReadS W W.heap.size (some ⟨g1, 0, none⟩) (some ⟨g2, 0, none⟩) (some ⟨g3, 0, none⟩) (some ⟨g4, 0, none⟩) s → ReadS W W.heap.size (some ⟨k1, 0, none⟩) (some ⟨k2, 0, none⟩) (some ⟨k3, 0, none⟩) (some ⟨k4, 0, none⟩) t → Calls Try.prog 21 #[snV s (.slice (some ⟨g1, 0, none⟩) s.rn.cs.length s.rn.cs.length) (.slice (some ⟨g2, 0, none⟩) s.pe.length s.pe.length) (.slice (some ⟨g3, 0, none⟩) s.fl.length s.fl.length) (.slice (some ⟨g4, 0, none⟩) s.ac.length s.ac.length), snV t (.slice (some ⟨k1, 0, none⟩) t.rn.cs.length t.rn.cs.length) (.slice (some ⟨k2, 0, none⟩) t.pe.length t.pe.length) (.slice (some ⟨k3, 0, none⟩) t.fl.length t.fl.length) (.slice (some ⟨k4, 0, none⟩) t.ac.length t.ac.length)] W fun e w' => e = .returned (.bool (decide (sameSn s t))) ∧ Below W.heap.size W w') := Lib.hid fun g1 g2 g3 g4 k1 k2 k3 k4 W h h' => HI s t _ _ _ _ _ _ _ _ _ _ _ _ _ _ _ _ W.heap.size W (Nat.le_refl _) h h' hlen hlen2
  generalize decide (sameSn s t) = x at *
  have hxx := bne_bool x
  clear hneg hneg2 hlow hlow2 hr hr' HI HSP HLEN2
  go_enter Try.func6, Try.ntmps6
  obtain ⟨a0, a1, a2, a3, a4, a5, a6, a7, a8, a9, a10, a11⟩ := HW.out.1.1
  go_wp2_with fail
  refine HZ.out.mono ?_
  rintro e w1 ⟨rfl, hb1⟩
  have H1 := Lib.hid (HW.out.next hb1)
  clear hb1 a0 a1 a2 a3 a4 a5 a6 a7 a8 a9 a10 a11
  obtain ⟨a0, a1, a2, a3, a4, a5, a6, a7, a8, a9, a10, a11⟩ := H1.out.2.1
  go_wp2_with fail
  refine (HZ3.out _ H1.out).mono ?_
  rintro e w2 ⟨rfl, hb2⟩
  have H2 := Lib.hid (H1.out.next hb2)
  clear hb2 a0 a1 a2 a3 a4 a5 a6 a7 a8 a9 a10 a11 H1 HW HZ HZ3
  obtain ⟨a0, a1, a2, a3, a4, a5, a6, a7, a8, a9, a10, a11⟩ := H2.out.1.1
  obtain ⟨b0, b1, b2, b3, b4, b5, b6, b7, b8, b9, b10, b11⟩ := H2.out.2.1
  have HSS : Hid (∀ W, Below w2.heap.size w2 W → W.cell? ⟨w.heap.size, 0, none⟩ = some (.int .i64 s.st) ∧ W.cell? ⟨w.heap.size, 1, none⟩ = some (.int .i64 s.rn.size) ∧ W.cell? ⟨w.heap.size, 2, none⟩ = some (.int .i64 s.rn.base) ∧ W.cell? ⟨w.heap.size, 3, none⟩ = some (.int .i64 s.rn.en) ∧ W.cell? ⟨w.heap.size, 4, none⟩ = some (.slice A1 s.rn.cs.length c1) ∧ W.cell? ⟨w.heap.size, 5, none⟩ = some (.slice A2 s.pe.length c2) ∧ W.cell? ⟨w.heap.size, 6, none⟩ = some (.slice A3 s.fl.length c3) ∧ W.cell? ⟨w.heap.size, 7, none⟩ = some (.slice A4 s.ac.length c4) ∧ W.cell? ⟨w.heap.size, 8, none⟩ = some (.int .i64 s.fin) ∧ W.cell? ⟨w.heap.size, 9, none⟩ = some (.int .i64 s.fi) ∧ W.cell? ⟨w.heap.size, 10, none⟩ = some (.int .i64 s.sent) ∧ W.cell? ⟨w.heap.size, 11, none⟩ = some (.int .i64 s.code) ∧ W.cell? ⟨w.heap.size + 1, 0, none⟩ = some (.int .i64 t.st) ∧ W.cell? ⟨w.heap.size + 1, 1, none⟩ = some (.int .i64 t.rn.size) ∧ W.cell? ⟨w.heap.size + 1, 2, none⟩ = some (.int .i64 t.rn.base) ∧ W.cell? ⟨w.heap.size + 1, 3, none⟩ = some (.int .i64 t.rn.en) ∧ W.cell? ⟨w.heap.size + 1, 4, none⟩ = some (.slice B1 t.rn.cs.length d1) ∧ W.cell? ⟨w.heap.size + 1, 5, none⟩ = some (.slice B2 t.pe.length d2) ∧ W.cell? ⟨w.heap.size + 1, 6, none⟩ = some (.slice B3 t.fl.length d3) ∧ W.cell? ⟨w.heap.size + 1, 7, none⟩ = some (.slice B4 t.ac.length d4) ∧ W.cell? ⟨w.heap.size + 1, 8, none⟩ = some (.int .i64 t.fin) ∧ W.cell? ⟨w.heap.size + 1, 9, none⟩ = some (.int .i64 t.fi) ∧ W.cell? ⟨w.heap.size + 1, 10, none⟩ = some (.int .i64 t.sent) ∧ W.cell? ⟨w.heap.size + 1, 11, none⟩ = some (.int .i64 t.code)) := Lib.hid fun W h => by
    have h2 := H2.out.next h
    exact ⟨h2.1.1.1, h2.1.1.2.1, h2.1.1.2.2.1, h2.1.1.2.2.2.1, h2.1.1.2.2.2.2.1, h2.1.1.2.2.2.2.2.1, h2.1.1.2.2.2.2.2.2.1, h2.1.1.2.2.2.2.2.2.2.1, h2.1.1.2.2.2.2.2.2.2.2.1, h2.1.1.2.2.2.2.2.2.2.2.2.1, h2.1.1.2.2.2.2.2.2.2.2.2.2.1, h2.1.1.2.2.2.2.2.2.2.2.2.2.2, h2.2.1.1, h2.2.1.2.1, h2.2.1.2.2.1, h2.2.1.2.2.2.1, h2.2.1.2.2.2.2.1, h2.2.1.2.2.2.2.2.1, h2.2.1.2.2.2.2.2.2.1, h2.2.1.2.2.2.2.2.2.2.1, h2.2.1.2.2.2.2.2.2.2.2.1, h2.2.1.2.2.2.2.2.2.2.2.2.1, h2.2.1.2.2.2.2.2.2.2.2.2.2.1, h2.2.1.2.2.2.2.2.2.2.2.2.2.2⟩
  have HT := Lib.hid (H2.out.1.drew.to hlen)
  have H2d := Lib.hid (H2.out.next (Below.refl _ _).drew)
  have HS0 := Lib.hid (HSS.out _ (Below.refl w2.heap.size w2).drew)
  go_upto_region 8 with fail
  go_region_held3 (fun W => W.cell? ⟨w.heap.size, 0, none⟩ = some (.int .i64 s.st) ∧ W.cell? ⟨w.heap.size, 1, none⟩ = some (.int .i64 s.rn.size) ∧ W.cell? ⟨w.heap.size, 2, none⟩ = some (.int .i64 s.rn.base) ∧ W.cell? ⟨w.heap.size, 3, none⟩ = some (.int .i64 s.rn.en) ∧ W.cell? ⟨w.heap.size, 4, none⟩ = some (.slice A1 s.rn.cs.length c1) ∧ W.cell? ⟨w.heap.size, 5, none⟩ = some (.slice A2 s.pe.length c2) ∧ W.cell? ⟨w.heap.size, 6, none⟩ = some (.slice A3 s.fl.length c3) ∧ W.cell? ⟨w.heap.size, 7, none⟩ = some (.slice A4 s.ac.length c4) ∧ W.cell? ⟨w.heap.size, 8, none⟩ = some (.int .i64 s.fin) ∧ W.cell? ⟨w.heap.size, 9, none⟩ = some (.int .i64 s.fi) ∧ W.cell? ⟨w.heap.size, 10, none⟩ = some (.int .i64 s.sent) ∧ W.cell? ⟨w.heap.size, 11, none⟩ = some (.int .i64 s.code) ∧ W.cell? ⟨w.heap.size + 1, 0, none⟩ = some (.int .i64 t.st) ∧ W.cell? ⟨w.heap.size + 1, 1, none⟩ = some (.int .i64 t.rn.size) ∧ W.cell? ⟨w.heap.size + 1, 2, none⟩ = some (.int .i64 t.rn.base) ∧ W.cell? ⟨w.heap.size + 1, 3, none⟩ = some (.int .i64 t.rn.en) ∧ W.cell? ⟨w.heap.size + 1, 4, none⟩ = some (.slice B1 t.rn.cs.length d1) ∧ W.cell? ⟨w.heap.size + 1, 5, none⟩ = some (.slice B2 t.pe.length d2) ∧ W.cell? ⟨w.heap.size + 1, 6, none⟩ = some (.slice B3 t.fl.length d3) ∧ W.cell? ⟨w.heap.size + 1, 7, none⟩ = some (.slice B4 t.ac.length d4) ∧ W.cell? ⟨w.heap.size + 1, 8, none⟩ = some (.int .i64 t.fin) ∧ W.cell? ⟨w.heap.size + 1, 9, none⟩ = some (.int .i64 t.fi) ∧ W.cell? ⟨w.heap.size + 1, 10, none⟩ = some (.int .i64 t.sent) ∧ W.cell? ⟨w.heap.size + 1, 11, none⟩ = some (.int .i64 t.code)) (first | with_reducible exact HS0.out | with_reducible exact HSA.out | with_reducible exact HSB.out | with_reducible exact HSC.out) (first | (go_at_call 10; ((with_reducible refine HT.out.mono ?_); rintro e w3 ⟨g31, g32, g33, g34, rfl, ho3, hb3⟩; have HB3 := Lib.hid ((Below.refl w2.heap.size w2).drew.trans hb3); have HSA := Lib.hid (HSS.out w3 HB3.out); have HR3 := Lib.hid ho3.read; have H3 := Lib.hid (H2d.out.next hb3); have HT2 := Lib.hid (H3.out.2.to hlen2); clear ho3 hb3)) | (go_at_call 10; ((with_reducible refine HT2.out.mono ?_); rintro e w4 ⟨g41, g42, g43, g44, rfl, ho4, hb4⟩; have HB4 := Lib.hid (HB3.out.trans (hb4.mono HB3.out.size)); have HSB := Lib.hid (HSS.out w4 HB4.out); have HR4 := Lib.hid ho4.read; have HP4 := Lib.hid ((HR3.out.below (Nat.le_refl _) hb4).up hb4.size); have H4 := Lib.hid (H3.out.next hb4); clear ho4 hb4)) | (go_at_call 20; refine (HS.out _ _ _ _ _ _ _ _ w4 HP4.out HR4.out).mono ?_; rintro e w5 ⟨rfl, hb5⟩; have HSC := Lib.hid (HSS.out w5 (HB4.out.trans (hb5.mono HB4.out.size))); have H5 := Lib.hid (H4.out.next hb5); clear hb5))
  clear HSS HT H2d HS0 HSA HSB HSC HT2 HB3 HR3 H3 HB4 HR4 HP4 H4 a0 a1 a2 a3 a4 a5 a6 a7 a8 a9 a10 a11 b0 b1 b2 b3 b4 b5 b6 b7 b8 b9 b10 b11 H2 HS
  obtain ⟨a0, a1, a2, a3, a4, a5, a6, a7, a8, a9, a10, a11⟩ := H5.out.1.1
  go_wp2_with fail
  refine (H5.out.1.to hlen).mono ?_
  rintro e w6 ⟨x61, x62, x63, x64, rfl, ho6, hb6⟩
  have X7 := Lib.hid (VarS.new s 35 ho6 hb6.size)
  have H7 := Lib.hid ((H5.out.next hb6).next ((Below.refl w6.heap.size w6).alloc (Nat.le_refl _) (.cells (snB s (.slice (some ⟨x61, 0, none⟩) s.rn.cs.length s.rn.cs.length) (.slice (some ⟨x62, 0, none⟩) s.pe.length s.pe.length) (.slice (some ⟨x63, 0, none⟩) s.fl.length s.fl.length) (.slice (some ⟨x64, 0, none⟩) s.ac.length s.ac.length)) 35)))
  have hz7 : (w6.alloc (.cells (snB s (.slice (some ⟨x61, 0, none⟩) s.rn.cs.length s.rn.cs.length) (.slice (some ⟨x62, 0, none⟩) s.pe.length s.pe.length) (.slice (some ⟨x63, 0, none⟩) s.fl.length s.fl.length) (.slice (some ⟨x64, 0, none⟩) s.ac.length s.ac.length)) 35)).heap.size = w6.heap.size + 1 := by simp
  have HZ7 := Lib.hid hz7
  clear ho6 hb6 hz7 a0 a1 a2 a3 a4 a5 a6 a7 a8 a9 a10 a11 H5
  go_upto_region 10 with fail
  generalize w6.alloc (.cells (snB s (.slice (some ⟨x61, 0, none⟩) s.rn.cs.length s.rn.cs.length) (.slice (some ⟨x62, 0, none⟩) s.pe.length s.pe.length) (.slice (some ⟨x63, 0, none⟩) s.fl.length s.fl.length) (.slice (some ⟨x64, 0, none⟩) s.ac.length s.ac.length)) 35) = w7 at *
  generalize w6.heap.size = gx at *
  generalize w5.heap.size = Bx at *
  obtain ⟨b0, b1, b2, b3, b4, b5, b6, b7, b8, b9, b10, b11⟩ := H7.out.2.1
  go_wp2_with fail
  refine (H7.out.2.to hlen2).mono ?_
  rintro e w8 ⟨y81, y82, y83, y84, rfl, ho8, hb8⟩
  have Y9 := Lib.hid (VarS.new t 35 ho8 hb8.size)
  have X9 := Lib.hid ((X7.out.next hb8).alloc (.cells (snB t (.slice (some ⟨y81, 0, none⟩) t.rn.cs.length t.rn.cs.length) (.slice (some ⟨y82, 0, none⟩) t.pe.length t.pe.length) (.slice (some ⟨y83, 0, none⟩) t.fl.length t.fl.length) (.slice (some ⟨y84, 0, none⟩) t.ac.length t.ac.length)) 35))
  have H9 := Lib.hid ((H7.out.next hb8).next ((Below.refl w8.heap.size w8).alloc (Nat.le_refl _) (.cells (snB t (.slice (some ⟨y81, 0, none⟩) t.rn.cs.length t.rn.cs.length) (.slice (some ⟨y82, 0, none⟩) t.pe.length t.pe.length) (.slice (some ⟨y83, 0, none⟩) t.fl.length t.fl.length) (.slice (some ⟨y84, 0, none⟩) t.ac.length t.ac.length)) 35)))
  clear ho8 hb8 b0 b1 b2 b3 b4 b5 b6 b7 b8 b9 b10 b11 H7 X7
  go_upto_region 11 with fail
  generalize w8.alloc (.cells (snB t (.slice (some ⟨y81, 0, none⟩) t.rn.cs.length t.rn.cs.length) (.slice (some ⟨y82, 0, none⟩) t.pe.length t.pe.length) (.slice (some ⟨y83, 0, none⟩) t.fl.length t.fl.length) (.slice (some ⟨y84, 0, none⟩) t.ac.length t.ac.length)) 35) = w9 at *
  generalize w8.heap.size = gy at *
  generalize w7.heap.size = By at *
  obtain ⟨q0, q1, q2, q3, q4, q5, q6, q7, q8, q9, q10, q11⟩ := X9.out.1
  obtain ⟨p0, p1, p2, p3, p4, p5, p6, p7, p8, p9, p10, p11⟩ := Y9.out.1
  go_wp2_with fail
  refine (HM.out _ _ _ _ _ _ _ _ w9 X9.out.2.1.read Y9.out.2.1.read).mono ?_
  rintro e w10 ⟨rfl, hb10⟩
  have H10 := Lib.hid (H9.out.next hb10)
  have X10 := Lib.hid (X9.out.next hb10)
  have Y10 := Lib.hid (Y9.out.next hb10)
  clear hb10 q0 q1 q2 q3 q4 q5 q6 q7 q8 q9 q10 q11 p0 p1 p2 p3 p4 p5 p6 p7 p8 p9 p10 p11 H9 X9 Y9
  have HSS : Hid (∀ W, Below w10.heap.size w10 W → W.cell? ⟨w.heap.size, 0, none⟩ = some (.int .i64 s.st) ∧ W.cell? ⟨w.heap.size, 1, none⟩ = some (.int .i64 s.rn.size) ∧ W.cell? ⟨w.heap.size, 2, none⟩ = some (.int .i64 s.rn.base) ∧ W.cell? ⟨w.heap.size, 3, none⟩ = some (.int .i64 s.rn.en) ∧ W.cell? ⟨w.heap.size, 4, none⟩ = some (.slice A1 s.rn.cs.length c1) ∧ W.cell? ⟨w.heap.size, 5, none⟩ = some (.slice A2 s.pe.length c2) ∧ W.cell? ⟨w.heap.size, 6, none⟩ = some (.slice A3 s.fl.length c3) ∧ W.cell? ⟨w.heap.size, 7, none⟩ = some (.slice A4 s.ac.length c4) ∧ W.cell? ⟨w.heap.size, 8, none⟩ = some (.int .i64 s.fin) ∧ W.cell? ⟨w.heap.size, 9, none⟩ = some (.int .i64 s.fi) ∧ W.cell? ⟨w.heap.size, 10, none⟩ = some (.int .i64 s.sent) ∧ W.cell? ⟨w.heap.size, 11, none⟩ = some (.int .i64 s.code) ∧ W.cell? ⟨gx, 0, none⟩ = some (.int .i64 s.st) ∧ W.cell? ⟨gx, 1, none⟩ = some (.int .i64 s.rn.size) ∧ W.cell? ⟨gx, 2, none⟩ = some (.int .i64 s.rn.base) ∧ W.cell? ⟨gx, 3, none⟩ = some (.int .i64 s.rn.en) ∧ W.cell? ⟨gx, 4, none⟩ = some (.slice (some ⟨x61, 0, none⟩) s.rn.cs.length s.rn.cs.length) ∧ W.cell? ⟨gx, 5, none⟩ = some (.slice (some ⟨x62, 0, none⟩) s.pe.length s.pe.length) ∧ W.cell? ⟨gx, 6, none⟩ = some (.slice (some ⟨x63, 0, none⟩) s.fl.length s.fl.length) ∧ W.cell? ⟨gx, 7, none⟩ = some (.slice (some ⟨x64, 0, none⟩) s.ac.length s.ac.length) ∧ W.cell? ⟨gx, 8, none⟩ = some (.int .i64 s.fin) ∧ W.cell? ⟨gx, 9, none⟩ = some (.int .i64 s.fi) ∧ W.cell? ⟨gx, 10, none⟩ = some (.int .i64 s.sent) ∧ W.cell? ⟨gx, 11, none⟩ = some (.int .i64 s.code)) := Lib.hid fun W h =>
    have h2 := (H10.out.next h).1.1
    have h3 := (X10.out.next h).1
    ⟨h2.1, h2.2.1, h2.2.2.1, h2.2.2.2.1, h2.2.2.2.2.1, h2.2.2.2.2.2.1, h2.2.2.2.2.2.2.1, h2.2.2.2.2.2.2.2.1, h2.2.2.2.2.2.2.2.2.1, h2.2.2.2.2.2.2.2.2.2.1, h2.2.2.2.2.2.2.2.2.2.2.1, h2.2.2.2.2.2.2.2.2.2.2.2, h3.1, h3.2.1, h3.2.2.1, h3.2.2.2.1, h3.2.2.2.2.1, h3.2.2.2.2.2.1, h3.2.2.2.2.2.2.1, h3.2.2.2.2.2.2.2.1, h3.2.2.2.2.2.2.2.2.1, h3.2.2.2.2.2.2.2.2.2.1, h3.2.2.2.2.2.2.2.2.2.2.1, h3.2.2.2.2.2.2.2.2.2.2.2⟩
  have HT := Lib.hid (H10.out.1.drew.to hlen)
  obtain ⟨z0, z1, z2, z3, z4, z5, z6, z7, z8, z9, z10, z11, z12, z13, z14, z15, z16, z17, z18, z19, z20, z21, z22, z23⟩ := HSS.out w10 (Below.refl _ _)
  have HS0 := Lib.hid (HSS.out _ (Below.refl w10.heap.size w10).drew)
  go_upto_region 14 with fail
  go_region_held3 (fun W => W.cell? ⟨w.heap.size, 0, none⟩ = some (.int .i64 s.st) ∧ W.cell? ⟨w.heap.size, 1, none⟩ = some (.int .i64 s.rn.size) ∧ W.cell? ⟨w.heap.size, 2, none⟩ = some (.int .i64 s.rn.base) ∧ W.cell? ⟨w.heap.size, 3, none⟩ = some (.int .i64 s.rn.en) ∧ W.cell? ⟨w.heap.size, 4, none⟩ = some (.slice A1 s.rn.cs.length c1) ∧ W.cell? ⟨w.heap.size, 5, none⟩ = some (.slice A2 s.pe.length c2) ∧ W.cell? ⟨w.heap.size, 6, none⟩ = some (.slice A3 s.fl.length c3) ∧ W.cell? ⟨w.heap.size, 7, none⟩ = some (.slice A4 s.ac.length c4) ∧ W.cell? ⟨w.heap.size, 8, none⟩ = some (.int .i64 s.fin) ∧ W.cell? ⟨w.heap.size, 9, none⟩ = some (.int .i64 s.fi) ∧ W.cell? ⟨w.heap.size, 10, none⟩ = some (.int .i64 s.sent) ∧ W.cell? ⟨w.heap.size, 11, none⟩ = some (.int .i64 s.code) ∧ W.cell? ⟨gx, 0, none⟩ = some (.int .i64 s.st) ∧ W.cell? ⟨gx, 1, none⟩ = some (.int .i64 s.rn.size) ∧ W.cell? ⟨gx, 2, none⟩ = some (.int .i64 s.rn.base) ∧ W.cell? ⟨gx, 3, none⟩ = some (.int .i64 s.rn.en) ∧ W.cell? ⟨gx, 4, none⟩ = some (.slice (some ⟨x61, 0, none⟩) s.rn.cs.length s.rn.cs.length) ∧ W.cell? ⟨gx, 5, none⟩ = some (.slice (some ⟨x62, 0, none⟩) s.pe.length s.pe.length) ∧ W.cell? ⟨gx, 6, none⟩ = some (.slice (some ⟨x63, 0, none⟩) s.fl.length s.fl.length) ∧ W.cell? ⟨gx, 7, none⟩ = some (.slice (some ⟨x64, 0, none⟩) s.ac.length s.ac.length) ∧ W.cell? ⟨gx, 8, none⟩ = some (.int .i64 s.fin) ∧ W.cell? ⟨gx, 9, none⟩ = some (.int .i64 s.fi) ∧ W.cell? ⟨gx, 10, none⟩ = some (.int .i64 s.sent) ∧ W.cell? ⟨gx, 11, none⟩ = some (.int .i64 s.code)) (first | with_reducible exact HS0.out | with_reducible exact HSA.out | with_reducible exact HSB.out) (first | (go_at_call 10; refine HT.out.mono ?_; rintro e w11 ⟨gt1, gt2, gt3, gt4, rfl, ho', hb'⟩; have HBv := Lib.hid ((Below.refl w10.heap.size w10).drew.trans hb'); have HSA := Lib.hid (HSS.out w11 HBv.out); have HRv := Lib.hid ho'; have HPv := Lib.hid (X10.out.next HBv.out).2.1; clear ho' hb') | (go_at_call 13; refine (eqvs s _ _ _ _ _ _ _ _ _ _ _ _ _ _ _ _ _ _ _ HPv.out HRv.out (hlen.up (by decide))).mono ?_; rintro e w12 ⟨rfl, hb'⟩; have HBw := Lib.hid (HBv.out.trans (hb'.mono HBv.out.size)); have HSB := Lib.hid (HSS.out w12 HBw.out); clear hb'))
  clear z0 z1 z2 z3 z4 z5 z6 z7 z8 z9 z10 z11 z12 z13 z14 z15 z16 z17 z18 z19 z20 z21 z22 z23 HSS HT HS0 HSA HSB HBv HRv HPv
  have H12 := Lib.hid (H10.out.next HBw.out)
  have Y12 := Lib.hid (Y10.out.next HBw.out)
  clear H10 X10 Y10 HBw
  have HSS : Hid (∀ W, Below w12.heap.size w12 W → W.cell? ⟨w.heap.size + 1, 0, none⟩ = some (.int .i64 t.st) ∧ W.cell? ⟨w.heap.size + 1, 1, none⟩ = some (.int .i64 t.rn.size) ∧ W.cell? ⟨w.heap.size + 1, 2, none⟩ = some (.int .i64 t.rn.base) ∧ W.cell? ⟨w.heap.size + 1, 3, none⟩ = some (.int .i64 t.rn.en) ∧ W.cell? ⟨w.heap.size + 1, 4, none⟩ = some (.slice B1 t.rn.cs.length d1) ∧ W.cell? ⟨w.heap.size + 1, 5, none⟩ = some (.slice B2 t.pe.length d2) ∧ W.cell? ⟨w.heap.size + 1, 6, none⟩ = some (.slice B3 t.fl.length d3) ∧ W.cell? ⟨w.heap.size + 1, 7, none⟩ = some (.slice B4 t.ac.length d4) ∧ W.cell? ⟨w.heap.size + 1, 8, none⟩ = some (.int .i64 t.fin) ∧ W.cell? ⟨w.heap.size + 1, 9, none⟩ = some (.int .i64 t.fi) ∧ W.cell? ⟨w.heap.size + 1, 10, none⟩ = some (.int .i64 t.sent) ∧ W.cell? ⟨w.heap.size + 1, 11, none⟩ = some (.int .i64 t.code) ∧ W.cell? ⟨gy, 0, none⟩ = some (.int .i64 t.st) ∧ W.cell? ⟨gy, 1, none⟩ = some (.int .i64 t.rn.size) ∧ W.cell? ⟨gy, 2, none⟩ = some (.int .i64 t.rn.base) ∧ W.cell? ⟨gy, 3, none⟩ = some (.int .i64 t.rn.en) ∧ W.cell? ⟨gy, 4, none⟩ = some (.slice (some ⟨y81, 0, none⟩) t.rn.cs.length t.rn.cs.length) ∧ W.cell? ⟨gy, 5, none⟩ = some (.slice (some ⟨y82, 0, none⟩) t.pe.length t.pe.length) ∧ W.cell? ⟨gy, 6, none⟩ = some (.slice (some ⟨y83, 0, none⟩) t.fl.length t.fl.length) ∧ W.cell? ⟨gy, 7, none⟩ = some (.slice (some ⟨y84, 0, none⟩) t.ac.length t.ac.length) ∧ W.cell? ⟨gy, 8, none⟩ = some (.int .i64 t.fin) ∧ W.cell? ⟨gy, 9, none⟩ = some (.int .i64 t.fi) ∧ W.cell? ⟨gy, 10, none⟩ = some (.int .i64 t.sent) ∧ W.cell? ⟨gy, 11, none⟩ = some (.int .i64 t.code)) := Lib.hid fun W h =>
    have h2 := (H12.out.next h).2.1
    have h3 := (Y12.out.next h).1
    ⟨h2.1, h2.2.1, h2.2.2.1, h2.2.2.2.1, h2.2.2.2.2.1, h2.2.2.2.2.2.1, h2.2.2.2.2.2.2.1, h2.2.2.2.2.2.2.2.1, h2.2.2.2.2.2.2.2.2.1, h2.2.2.2.2.2.2.2.2.2.1, h2.2.2.2.2.2.2.2.2.2.2.1, h2.2.2.2.2.2.2.2.2.2.2.2, h3.1, h3.2.1, h3.2.2.1, h3.2.2.2.1, h3.2.2.2.2.1, h3.2.2.2.2.2.1, h3.2.2.2.2.2.2.1, h3.2.2.2.2.2.2.2.1, h3.2.2.2.2.2.2.2.2.1, h3.2.2.2.2.2.2.2.2.2.1, h3.2.2.2.2.2.2.2.2.2.2.1, h3.2.2.2.2.2.2.2.2.2.2.2⟩
  have HT := Lib.hid (H12.out.2.drew.to hlen2)
  obtain ⟨z0, z1, z2, z3, z4, z5, z6, z7, z8, z9, z10, z11, z12, z13, z14, z15, z16, z17, z18, z19, z20, z21, z22, z23⟩ := HSS.out w12 (Below.refl _ _)
  have HS0 := Lib.hid (HSS.out _ (Below.refl w12.heap.size w12).drew)
  go_upto_region 16 with fail
  go_region_held3 (fun W => W.cell? ⟨w.heap.size + 1, 0, none⟩ = some (.int .i64 t.st) ∧ W.cell? ⟨w.heap.size + 1, 1, none⟩ = some (.int .i64 t.rn.size) ∧ W.cell? ⟨w.heap.size + 1, 2, none⟩ = some (.int .i64 t.rn.base) ∧ W.cell? ⟨w.heap.size + 1, 3, none⟩ = some (.int .i64 t.rn.en) ∧ W.cell? ⟨w.heap.size + 1, 4, none⟩ = some (.slice B1 t.rn.cs.length d1) ∧ W.cell? ⟨w.heap.size + 1, 5, none⟩ = some (.slice B2 t.pe.length d2) ∧ W.cell? ⟨w.heap.size + 1, 6, none⟩ = some (.slice B3 t.fl.length d3) ∧ W.cell? ⟨w.heap.size + 1, 7, none⟩ = some (.slice B4 t.ac.length d4) ∧ W.cell? ⟨w.heap.size + 1, 8, none⟩ = some (.int .i64 t.fin) ∧ W.cell? ⟨w.heap.size + 1, 9, none⟩ = some (.int .i64 t.fi) ∧ W.cell? ⟨w.heap.size + 1, 10, none⟩ = some (.int .i64 t.sent) ∧ W.cell? ⟨w.heap.size + 1, 11, none⟩ = some (.int .i64 t.code) ∧ W.cell? ⟨gy, 0, none⟩ = some (.int .i64 t.st) ∧ W.cell? ⟨gy, 1, none⟩ = some (.int .i64 t.rn.size) ∧ W.cell? ⟨gy, 2, none⟩ = some (.int .i64 t.rn.base) ∧ W.cell? ⟨gy, 3, none⟩ = some (.int .i64 t.rn.en) ∧ W.cell? ⟨gy, 4, none⟩ = some (.slice (some ⟨y81, 0, none⟩) t.rn.cs.length t.rn.cs.length) ∧ W.cell? ⟨gy, 5, none⟩ = some (.slice (some ⟨y82, 0, none⟩) t.pe.length t.pe.length) ∧ W.cell? ⟨gy, 6, none⟩ = some (.slice (some ⟨y83, 0, none⟩) t.fl.length t.fl.length) ∧ W.cell? ⟨gy, 7, none⟩ = some (.slice (some ⟨y84, 0, none⟩) t.ac.length t.ac.length) ∧ W.cell? ⟨gy, 8, none⟩ = some (.int .i64 t.fin) ∧ W.cell? ⟨gy, 9, none⟩ = some (.int .i64 t.fi) ∧ W.cell? ⟨gy, 10, none⟩ = some (.int .i64 t.sent) ∧ W.cell? ⟨gy, 11, none⟩ = some (.int .i64 t.code)) (first | with_reducible exact HS0.out | with_reducible exact HSA.out | with_reducible exact HSB.out) (first | (go_at_call 10; refine HT.out.mono ?_; rintro e w13 ⟨gt1, gt2, gt3, gt4, rfl, ho', hb'⟩; have HBv := Lib.hid ((Below.refl w12.heap.size w12).drew.trans hb'); have HSA := Lib.hid (HSS.out w13 HBv.out); have HRv := Lib.hid ho'; have HPv := Lib.hid (Y12.out.next HBv.out).2.1; clear ho' hb') | (go_at_call 13; refine (eqvs t _ _ _ _ _ _ _ _ _ _ _ _ _ _ _ _ _ _ _ HPv.out HRv.out (hlen2.up (by decide))).mono ?_; rintro e w14 ⟨rfl, hb'⟩; have HBw := Lib.hid (HBv.out.trans (hb'.mono HBv.out.size)); have HSB := Lib.hid (HSS.out w14 HBw.out); clear hb'))
  clear z0 z1 z2 z3 z4 z5 z6 z7 z8 z9 z10 z11 z12 z13 z14 z15 z16 z17 z18 z19 z20 z21 z22 z23 HSS HT HS0 HSA HSB HBv HRv HPv
  have H14 := Lib.hid (H12.out.next HBw.out)
  clear HBw
  go_wp2
  go_ret
  exact ⟨rfl, H14.out.1.2.2.2⟩

end Go.Proofs.Ytjohbfdifdjldac
