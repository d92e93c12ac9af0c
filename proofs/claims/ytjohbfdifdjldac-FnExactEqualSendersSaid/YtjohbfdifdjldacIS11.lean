/-
  What impl.EqualSenders returns.
-/
import Derived.Test.YtjohbfdifdjldacSS11
import Derived.Test.YtjohbfdifdjldacIEq
import Derived.Test.YtjohbfdifdjldacIRn9
namespace Go.Proofs.Ytjohbfdifdjldac
open Go.RowKit Go.Deep Go.Proofs.Ytjohbfdifdjldac.Num

set_option maxRecDepth 100000 in
set_option maxHeartbeats 8000000 in
/-- impl.EqualSenders -/
theorem ieqS (s t : Sn) (A1 A2 A3 A4 B1 B2 B3 B4 : Option Addr) (c1 c2 c3 c4 d1 d2 d3 d4 B : Nat) (w : World) (hB : B ≤ w.heap.size) (hr : ReadS w B A1 A2 A3 A4 s) (hr' : ReadS w B B1 B2 B3 B4 t) (hn : LenS 10000000 s) (hn' : LenS 10000000 t) :
    Calls Try.prog 21 #[snV s (.slice A1 s.rn.cs.length c1) (.slice A2 s.pe.length c2) (.slice A3 s.fl.length c3) (.slice A4 s.ac.length c4), snV t (.slice B1 t.rn.cs.length d1) (.slice B2 t.pe.length d2) (.slice B3 t.fl.length d3) (.slice B4 t.ac.length d4)] w fun e w' => e = .returned (.bool (decide (sameSn s t))) ∧ Below w.heap.size w w' := by
  have HH := Lib.hid (InSn2.start w s A1 A2 A3 A4 c1 c2 c3 c4 t B1 B2 B3 B4 d1 d2 d3 d4 (hr.up hB) (hr'.up hB))
  have HRN : Hid (∀ W, InSn2 w s A1 A2 A3 A4 c1 c2 c3 c4 t B1 B2 B3 B4 d1 d2 d3 d4 W → Calls Try.prog 50 #[rnV s.rn (.slice A1 s.rn.cs.length c1), rnV t.rn (.slice B1 t.rn.cs.length d1)] W fun e w' => e = .returned (.bool (decide (sameRn s.rn t.rn))) ∧ Below W.heap.size W w') := Lib.hid fun W h => ieqrn s.rn t.rn A1 B1 c1 d1 (w.heap.size + 1) W (Nat.le_of_lt h.2.2.2.1) (h.1.2.1.1.up (Nat.le_succ _)) h.2.2.1.1 (Nat.le_trans hn.1 (by decide)) (Nat.le_trans hn'.1 (by decide))
  have HPE : Hid (∀ W, InSn2 w s A1 A2 A3 A4 c1 c2 c3 c4 t B1 B2 B3 B4 d1 d2 d3 d4 W → Calls Try.prog 51 #[.slice A2 s.pe.length c2, .slice B2 t.pe.length d2] W fun e w' => e = .returned (.bool (decide (s.pe = t.pe))) ∧ Below W.heap.size W w') := Lib.hid fun W h => ieqr s.pe t.pe A2 B2 c2 d2 (w.heap.size + 1) W (Nat.le_of_lt h.2.2.2.1) (h.1.2.1.2.1.up (Nat.le_succ _)) h.2.2.1.2.1 (Nat.le_trans hn.2.1 (by decide)) (Nat.le_trans hn'.2.1 (by decide))
  have HFL : Hid (∀ W, InSn2 w s A1 A2 A3 A4 c1 c2 c3 c4 t B1 B2 B3 B4 d1 d2 d3 d4 W → Calls Try.prog 51 #[.slice A3 s.fl.length c3, .slice B3 t.fl.length d3] W fun e w' => e = .returned (.bool (decide (s.fl = t.fl))) ∧ Below W.heap.size W w') := Lib.hid fun W h => ieqr s.fl t.fl A3 B3 c3 d3 (w.heap.size + 1) W (Nat.le_of_lt h.2.2.2.1) (h.1.2.1.2.2.1.up (Nat.le_succ _)) h.2.2.1.2.2.1 (Nat.le_trans hn.2.2.1 (by decide)) (Nat.le_trans hn'.2.2.1 (by decide))
  have HAC : Hid (∀ W, InSn2 w s A1 A2 A3 A4 c1 c2 c3 c4 t B1 B2 B3 B4 d1 d2 d3 d4 W → Calls Try.prog 51 #[.slice A4 s.ac.length c4, .slice B4 t.ac.length d4] W fun e w' => e = .returned (.bool (decide (s.ac = t.ac))) ∧ Below W.heap.size W w') := Lib.hid fun W h => ieqr s.ac t.ac A4 B4 c4 d4 (w.heap.size + 1) W (Nat.le_of_lt h.2.2.2.1) (h.1.2.1.2.2.2.up (Nat.le_succ _)) h.2.2.1.2.2.2 (Nat.le_trans hn.2.2.2 (by decide)) (Nat.le_trans hn'.2.2.2 (by decide))
  clear hr hr' hn hn'
  go_enter Try.func21, Try.ntmps21
  obtain ⟨⟨a0, a1, a2, a3, a4, a5, a6, a7, a8, a9, a10, a11⟩, ⟨b0, b1, b2, b3, b4, b5, b6, b7, b8, b9, b10, b11⟩⟩ : (_ ∧ _) := ⟨HH.out.1.1, HH.out.2.1⟩
  by_cases h : s.st = t.st
  rotate_left
  · have HV : Hid (decide (sameSn s t) = false) := Lib.hid (decide_eq_false (fun k => h k.1))
    have u0 : (s.st == t.st) = false := by simpa using h
    clear h
    go_wp2
    go_ret
    exact ⟨by rw [HV.out]; rfl, HH.out.1.2.2.2⟩
  have u0 : (s.st == t.st) = true := by simpa using h
  have H0 := Lib.hid h
  clear h
  go_wp2_with fail
  by_cases h : sameRn s.rn t.rn
  rotate_left
  · have HV : Hid (decide (sameSn s t) = false) := Lib.hid (decide_eq_false (fun k => h (k.2.1)))
    rw [decide_eq_false h] at HRN
    clear h
    refine (HRN.out _ HH.out).mono ?_
    rintro e w1 ⟨rfl, hb1⟩
    have HH := Lib.hid (HH.out.next hb1)
    clear hb1 a0 a1 a2 a3 a4 a5 a6 a7 a8 a9 a10 a11 b0 b1 b2 b3 b4 b5 b6 b7 b8 b9 b10 b11
    obtain ⟨⟨a0, a1, a2, a3, a4, a5, a6, a7, a8, a9, a10, a11⟩, ⟨b0, b1, b2, b3, b4, b5, b6, b7, b8, b9, b10, b11⟩⟩ : (_ ∧ _) := ⟨HH.out.1.1, HH.out.2.1⟩
    go_wp2
    go_ret
    exact ⟨by rw [HV.out]; rfl, HH.out.1.2.2.2⟩
  rw [decide_eq_true h] at HRN
  have H1 := Lib.hid h
  clear h
  refine (HRN.out _ HH.out).mono ?_
  rintro e w1 ⟨rfl, hb1⟩
  have HH := Lib.hid (HH.out.next hb1)
  clear hb1 a0 a1 a2 a3 a4 a5 a6 a7 a8 a9 a10 a11 b0 b1 b2 b3 b4 b5 b6 b7 b8 b9 b10 b11
  obtain ⟨⟨a0, a1, a2, a3, a4, a5, a6, a7, a8, a9, a10, a11⟩, ⟨b0, b1, b2, b3, b4, b5, b6, b7, b8, b9, b10, b11⟩⟩ : (_ ∧ _) := ⟨HH.out.1.1, HH.out.2.1⟩
  go_wp2_with fail
  by_cases h : s.pe = t.pe
  rotate_left
  · have HV : Hid (decide (sameSn s t) = false) := Lib.hid (decide_eq_false (fun k => h (k.2.2.1)))
    rw [decide_eq_false h] at HPE
    clear h
    refine (HPE.out _ HH.out).mono ?_
    rintro e w1 ⟨rfl, hb1⟩
    have HH := Lib.hid (HH.out.next hb1)
    clear hb1 a0 a1 a2 a3 a4 a5 a6 a7 a8 a9 a10 a11 b0 b1 b2 b3 b4 b5 b6 b7 b8 b9 b10 b11
    obtain ⟨⟨a0, a1, a2, a3, a4, a5, a6, a7, a8, a9, a10, a11⟩, ⟨b0, b1, b2, b3, b4, b5, b6, b7, b8, b9, b10, b11⟩⟩ : (_ ∧ _) := ⟨HH.out.1.1, HH.out.2.1⟩
    go_wp2
    go_ret
    exact ⟨by rw [HV.out]; rfl, HH.out.1.2.2.2⟩
  rw [decide_eq_true h] at HPE
  have H2 := Lib.hid h
  clear h
  refine (HPE.out _ HH.out).mono ?_
  rintro e w1 ⟨rfl, hb1⟩
  have HH := Lib.hid (HH.out.next hb1)
  clear hb1 a0 a1 a2 a3 a4 a5 a6 a7 a8 a9 a10 a11 b0 b1 b2 b3 b4 b5 b6 b7 b8 b9 b10 b11
  obtain ⟨⟨a0, a1, a2, a3, a4, a5, a6, a7, a8, a9, a10, a11⟩, ⟨b0, b1, b2, b3, b4, b5, b6, b7, b8, b9, b10, b11⟩⟩ : (_ ∧ _) := ⟨HH.out.1.1, HH.out.2.1⟩
  go_wp2_with fail
  by_cases h : s.fl = t.fl
  rotate_left
  · have HV : Hid (decide (sameSn s t) = false) := Lib.hid (decide_eq_false (fun k => h (k.2.2.2.1)))
    rw [decide_eq_false h] at HFL
    clear h
    refine (HFL.out _ HH.out).mono ?_
    rintro e w1 ⟨rfl, hb1⟩
    have HH := Lib.hid (HH.out.next hb1)
    clear hb1 a0 a1 a2 a3 a4 a5 a6 a7 a8 a9 a10 a11 b0 b1 b2 b3 b4 b5 b6 b7 b8 b9 b10 b11
    obtain ⟨⟨a0, a1, a2, a3, a4, a5, a6, a7, a8, a9, a10, a11⟩, ⟨b0, b1, b2, b3, b4, b5, b6, b7, b8, b9, b10, b11⟩⟩ : (_ ∧ _) := ⟨HH.out.1.1, HH.out.2.1⟩
    go_wp2
    go_ret
    exact ⟨by rw [HV.out]; rfl, HH.out.1.2.2.2⟩
  rw [decide_eq_true h] at HFL
  have H3 := Lib.hid h
  clear h
  refine (HFL.out _ HH.out).mono ?_
  rintro e w1 ⟨rfl, hb1⟩
  have HH := Lib.hid (HH.out.next hb1)
  clear hb1 a0 a1 a2 a3 a4 a5 a6 a7 a8 a9 a10 a11 b0 b1 b2 b3 b4 b5 b6 b7 b8 b9 b10 b11
  obtain ⟨⟨a0, a1, a2, a3, a4, a5, a6, a7, a8, a9, a10, a11⟩, ⟨b0, b1, b2, b3, b4, b5, b6, b7, b8, b9, b10, b11⟩⟩ : (_ ∧ _) := ⟨HH.out.1.1, HH.out.2.1⟩
  go_wp2_with fail
  by_cases h : s.ac = t.ac
  rotate_left
  · have HV : Hid (decide (sameSn s t) = false) := Lib.hid (decide_eq_false (fun k => h (k.2.2.2.2.1)))
    rw [decide_eq_false h] at HAC
    clear h
    refine (HAC.out _ HH.out).mono ?_
    rintro e w1 ⟨rfl, hb1⟩
    have HH := Lib.hid (HH.out.next hb1)
    clear hb1 a0 a1 a2 a3 a4 a5 a6 a7 a8 a9 a10 a11 b0 b1 b2 b3 b4 b5 b6 b7 b8 b9 b10 b11
    obtain ⟨⟨a0, a1, a2, a3, a4, a5, a6, a7, a8, a9, a10, a11⟩, ⟨b0, b1, b2, b3, b4, b5, b6, b7, b8, b9, b10, b11⟩⟩ : (_ ∧ _) := ⟨HH.out.1.1, HH.out.2.1⟩
    go_wp2
    go_ret
    exact ⟨by rw [HV.out]; rfl, HH.out.1.2.2.2⟩
  rw [decide_eq_true h] at HAC
  have H4 := Lib.hid h
  clear h
  refine (HAC.out _ HH.out).mono ?_
  rintro e w1 ⟨rfl, hb1⟩
  have HH := Lib.hid (HH.out.next hb1)
  clear hb1 a0 a1 a2 a3 a4 a5 a6 a7 a8 a9 a10 a11 b0 b1 b2 b3 b4 b5 b6 b7 b8 b9 b10 b11
  obtain ⟨⟨a0, a1, a2, a3, a4, a5, a6, a7, a8, a9, a10, a11⟩, ⟨b0, b1, b2, b3, b4, b5, b6, b7, b8, b9, b10, b11⟩⟩ : (_ ∧ _) := ⟨HH.out.1.1, HH.out.2.1⟩
  by_cases h : s.fin = t.fin
  rotate_left
  · have HV : Hid (decide (sameSn s t) = false) := Lib.hid (decide_eq_false (fun k => h (k.2.2.2.2.2.1)))
    have v0 : (s.fin == t.fin) = false := by simpa using h
    clear h
    go_wp2
    go_ret
    exact ⟨by rw [HV.out]; rfl, HH.out.1.2.2.2⟩
  have v0 : (s.fin == t.fin) = true := by simpa using h
  have H5 := Lib.hid h
  clear h
  by_cases h : s.fi = t.fi
  rotate_left
  · have HV : Hid (decide (sameSn s t) = false) := Lib.hid (decide_eq_false (fun k => h (k.2.2.2.2.2.2.1)))
    have v1 : (s.fi == t.fi) = false := by simpa using h
    clear h
    go_wp2
    go_ret
    exact ⟨by rw [HV.out]; rfl, HH.out.1.2.2.2⟩
  have v1 : (s.fi == t.fi) = true := by simpa using h
  have H6 := Lib.hid h
  clear h
  by_cases h : s.sent = t.sent
  rotate_left
  · have HV : Hid (decide (sameSn s t) = false) := Lib.hid (decide_eq_false (fun k => h (k.2.2.2.2.2.2.2.1)))
    have v2 : (s.sent == t.sent) = false := by simpa using h
    clear h
    go_wp2
    go_ret
    exact ⟨by rw [HV.out]; rfl, HH.out.1.2.2.2⟩
  have v2 : (s.sent == t.sent) = true := by simpa using h
  have H7 := Lib.hid h
  clear h
  have HV : Hid (decide (sameSn s t) = (s.code == t.code)) := Lib.hid (by
    rw [show (s.code == t.code) = decide (s.code = t.code) from rfl]
    exact decide_eq_decide.2 ⟨fun k => k.2.2.2.2.2.2.2.2, fun k => ⟨H0.out, H1.out, H2.out, H3.out, H4.out, H5.out, H6.out, H7.out, k⟩⟩)
  go_wp2
  go_ret
  exact ⟨by rw [HV.out] <;> rfl, HH.out.1.2.2.2⟩
end Go.Proofs.Ytjohbfdifdjldac
