/-
  What spec.IsRing, RoomOf, EqualRings and NewRing return.
-/
import Derived.Test.YtjohbfdifdjldacSRn1
import Derived.Test.YtjohbfdifdjldacIn
namespace Go.Proofs.Ytjohbfdifdjldac
open Go.RowKit Go.Deep Go.Proofs.Ytjohbfdifdjldac.Num

set_option maxRecDepth 100000 in
set_option maxHeartbeats 2000000 in
/-- spec.IsRing -/
theorem sisrn (r : Rn) (A : Option Addr) (cap B : Nat) (w : World) (hB : B ≤ w.heap.size) (hr : Ints w B A r.cs) (hn : r.cs.length ≤ 1000000000) (hx : inRn r) :
    Calls Try.prog 55 #[rnV r (.slice A r.cs.length cap)] w fun e w' => e = .returned (.bool (decide (okRn r))) ∧ Below w.heap.size w w' := by
  have HH := Lib.hid (InRn.start w r A cap 32 (hr.up hB))
  have HPW := Lib.hid fun W => spower r.size W
  have HR := Lib.hid (hr.up hB)
  by_cases h0 : powR r.size
  rotate_left
  · have HV : Hid (decide (okRn r) = false) := Lib.hid (decide_eq_false (fun h => h0 h.1))
    rw [decide_eq_false h0] at HPW
    clear hr hn hx h0
    go_enter Try.func55, Try.ntmps55
    obtain ⟨a0, a1, a2, a3⟩ := HH.out.1
    go_wp2_with fail
    refine (HPW.out _).mono ?_
    rintro e w1 ⟨rfl, rfl⟩
    clear a0 a1 a2 a3
    obtain ⟨a0, a1, a2, a3⟩ := HH.out.1
    go_wp2
    go_ret
    exact ⟨by rw [HV.out]; rfl, HH.out.2.2.2⟩
  rw [decide_eq_true h0] at HPW
  by_cases h1 : (r.cs.length : Int) = r.size
  rotate_left
  · have HV : Hid (decide (okRn r) = false) := Lib.hid (decide_eq_false (fun h => h1 h.2.1))
    have d1 : ((r.cs.length : Int) != r.size) = true := by simpa using h1
    clear hr hn hx h0 h1
    go_enter Try.func55, Try.ntmps55
    obtain ⟨a0, a1, a2, a3⟩ := HH.out.1
    go_wp2_with fail
    refine (HPW.out _).mono ?_
    rintro e w1 ⟨rfl, rfl⟩
    clear a0 a1 a2 a3
    obtain ⟨a0, a1, a2, a3⟩ := HH.out.1
    go_wp2
    go_ret
    exact ⟨by rw [HV.out]; rfl, HH.out.2.2.2⟩
  have d1 : ((r.cs.length : Int) != r.size) = false := by simpa using h1
  by_cases h2 : r.base < 0
  · have HV : Hid (decide (okRn r) = false) := Lib.hid (decide_eq_false (fun h => by have := h.2.2.1; omega))
    have d2 : decide (r.base < 0) = true := decide_eq_true h2
    clear hr hn hx h0 h1 h2
    go_enter Try.func55, Try.ntmps55
    obtain ⟨a0, a1, a2, a3⟩ := HH.out.1
    go_wp2_with fail
    refine (HPW.out _).mono ?_
    rintro e w1 ⟨rfl, rfl⟩
    clear a0 a1 a2 a3
    obtain ⟨a0, a1, a2, a3⟩ := HH.out.1
    go_wp2
    go_ret
    exact ⟨by rw [HV.out]; rfl, HH.out.2.2.2⟩
  have d2 : decide (r.base < 0) = false := decide_eq_false h2
  by_cases h3 : r.en < r.base
  · have HV : Hid (decide (okRn r) = false) := Lib.hid (decide_eq_false (fun h => by have := h.2.2.2.1; omega))
    have d3 : decide (r.en < r.base) = true := decide_eq_true h3
    clear hr hn hx h0 h1 h2 h3
    go_enter Try.func55, Try.ntmps55
    obtain ⟨a0, a1, a2, a3⟩ := HH.out.1
    go_wp2_with fail
    refine (HPW.out _).mono ?_
    rintro e w1 ⟨rfl, rfl⟩
    clear a0 a1 a2 a3
    obtain ⟨a0, a1, a2, a3⟩ := HH.out.1
    go_wp2
    go_ret
    exact ⟨by rw [HV.out]; rfl, HH.out.2.2.2⟩
  have d3 : decide (r.en < r.base) = false := decide_eq_false h3
  obtain ⟨q, hq⟩ : ∃ q, r.en - r.base = q := ⟨_, rfl⟩
  have hw : wrap64 (r.en - r.base) = q := by
    have hx3 := hx.2.2
    rw [← hq]
    unfold wrap64
    clear hx
    omega
  by_cases h4 : r.size < q
  · have HV : Hid (decide (okRn r) = false) := Lib.hid (decide_eq_false (fun h => by have := h.2.2.2.2.1; omega))
    have d4 : decide (r.size < q) = true := decide_eq_true h4
    clear hr hn hx h0 h1 h2 h3 h4 hq
    go_enter Try.func55, Try.ntmps55
    obtain ⟨a0, a1, a2, a3⟩ := HH.out.1
    go_wp2_with fail
    refine (HPW.out _).mono ?_
    rintro e w1 ⟨rfl, rfl⟩
    clear a0 a1 a2 a3
    obtain ⟨a0, a1, a2, a3⟩ := HH.out.1
    go_wp2
    go_ret
    exact ⟨by rw [HV.out]; rfl, HH.out.2.2.2⟩
  have d4 : decide (r.size < q) = false := decide_eq_false h4
  by_cases h5 : 4611686018427387903 < r.en
  · have HV : Hid (decide (okRn r) = false) := Lib.hid (decide_eq_false (fun h => by have := h.2.2.2.2.2.1; omega))
    have d5 : decide (4611686018427387903 < r.en) = true := decide_eq_true h5
    clear hr hn hx h0 h1 h2 h3 h4 h5 hq
    go_enter Try.func55, Try.ntmps55
    obtain ⟨a0, a1, a2, a3⟩ := HH.out.1
    go_wp2_with fail
    refine (HPW.out _).mono ?_
    rintro e w1 ⟨rfl, rfl⟩
    clear a0 a1 a2 a3
    obtain ⟨a0, a1, a2, a3⟩ := HH.out.1
    go_wp2
    go_ret
    exact ⟨by rw [HV.out]; rfl, HH.out.2.2.2⟩
  have d5 : decide (4611686018427387903 < r.en) = false := decide_eq_false h5
  have HOK : Hid ((∀ z ∈ r.cs, 0 ≤ z ∧ z ≤ 255) ↔ okRn r) := Lib.hid ⟨fun h => ⟨h0, h1, by omega, by omega, by omega, by omega, h⟩, fun h => h.2.2.2.2.2.2⟩
  have hln : r.cs.length ≤ 1000000000 := hn
  clear hr hx hn h0 h1 h2 h3 h4 h5 hq
  go_enter Try.func55, Try.ntmps55
  obtain ⟨a0, a1, a2, a3⟩ := HH.out.1
  go_wp2_with fail
  refine (HPW.out _).mono ?_
  rintro e w1 ⟨rfl, rfl⟩
  clear a0 a1 a2 a3
  obtain ⟨a0, a1, a2, a3⟩ := HH.out.1
  go_wp2
  clear a0 a1 a2 a3
  clear d1 d2 d3 d4 d5 hw
  go_loopw [3] (fun i wr => ∃ j : Nat, j ≤ r.cs.length ∧ i = .int .i64 j ∧ (∀ z ∈ r.cs.take j, 0 ≤ z ∧ z ≤ 255) ∧ InRn w w.heap.size r A cap wr) (fun i _ => r.cs.length - (intOf i).toNat)
  case atStart => exact ⟨0, Nat.zero_le _, rfl, fun z hz => by simp at hz, HH.out⟩
  case round =>
    obtain ⟨j, hj, rfl, ht, hh⟩ := hrel
    have HH := Lib.hid hh
    have HT := Lib.hid ht
    clear ht hh
    obtain ⟨a0, a1, a2, a3⟩ := HH.out.1
    by_cases hlt : j < r.cs.length
    · obtain ⟨b, off, rfl, hbB, hc⟩ := HH.out.2.1 j hlt
      have HTK : Hid (∀ z, z ∈ r.cs.take (j + 1) → z ∈ r.cs.take j ∨ z = r.cs[j]) := Lib.hid (fun z hz => by
        rw [List.take_succ_eq_append_getElem hlt] at hz
        rcases List.mem_append.1 hz with h | h
        · exact .inl h
        · exact .inr (List.mem_singleton.1 h))
      have HM : Hid (r.cs[j] ∈ r.cs) := Lib.hid (List.getElem_mem hlt)
      generalize r.cs[j] = z at *
      by_cases hz : 0 ≤ z ∧ z ≤ 255
      · have HI := Lib.hid fun W => in_yes z 0 255 W hz.1 hz.2
        have HZ := Lib.hid hz
        clear hz
        go_wp2_with fail
        refine (HI.out _).mono ?_
        rintro e w1 ⟨rfl, rfl⟩
        go_wp2
        go_roundw
        case rel => exact ⟨j + 1, hlt, by go_num, fun y hy => (HTK.out y hy).elim (fun h => HT.out y h) (fun h => by rw [h]; exact HZ.out), HH.out⟩
        case measure => simp [intOf]; omega
      · have HI := Lib.hid fun W => in_no z 0 255 W (by omega)
        have HV : Hid (decide (okRn r) = false) := Lib.hid (decide_eq_false (fun h => hz (h.2.2.2.2.2.2 z HM.out)))
        clear hz
        go_wp2_with fail
        refine (HI.out _).mono ?_
        rintro e w1 ⟨rfl, rfl⟩
        go_wp2
        go_ret
        exact ⟨by rw [HV.out]; rfl, HH.out.2.2.2⟩
    · obtain rfl : j = r.cs.length := by omega
      have HV : Hid (decide (okRn r) = true) := Lib.hid (decide_eq_true (HOK.out.1 (by have h := HT.out; rwa [List.take_length] at h)))
      go_wp2
      go_ret
      exact ⟨by rw [HV.out]; rfl, HH.out.2.2.2⟩
/-- Two that came in, boxed. -/
def InRn2 (w : World) (r : Rn) (A : Option Addr) (cap : Nat) (s : Rn) (A' : Option Addr) (cap' : Nat) (W : World) : Prop :=
  InRn w w.heap.size r A cap W ∧ InRn (w.alloc (.cells (rnC r.size r.base r.en (.slice A r.cs.length cap)) 32)) (w.heap.size + 1) s A' cap' W
theorem InRn2.start (w : World) (r : Rn) (A : Option Addr) (cap : Nat) (s : Rn) (A' : Option Addr) (cap' : Nat) (hr : Ints w w.heap.size A r.cs) (hr' : Ints w w.heap.size A' s.cs) :
    InRn2 w r A cap s A' cap' ((w.alloc (.cells (rnC r.size r.base r.en (.slice A r.cs.length cap)) 32)).alloc (.cells (rnC s.size s.base s.en (.slice A' s.cs.length cap')) 32)) := by
  have hs : (w.alloc (.cells (rnC r.size r.base r.en (.slice A r.cs.length cap)) 32)).heap.size = w.heap.size + 1 := by simp
  refine ⟨(InRn.start w r A cap _ hr).alloc _, ?_⟩
  rw [← hs]
  exact InRn.start _ s A' cap' _ ((hr'.below (Nat.le_refl _) ((Below.refl _ _).alloc (Nat.le_refl _) _)).up (by rw [hs]; omega))
theorem InRn2.next {w : World} {r : Rn} {A : Option Addr} {cap : Nat} {s : Rn} {A' : Option Addr} {cap' : Nat} {W W' : World} (h : InRn2 w r A cap s A' cap' W) (hb : Below W.heap.size W W') : InRn2 w r A cap s A' cap' W' :=
  ⟨h.1.next hb, h.2.next hb⟩
set_option maxRecDepth 100000 in
set_option maxHeartbeats 2000000 in
/-- spec.EqualRings -/
theorem seqrn (r s : Rn) (A A' : Option Addr) (cap cap' B : Nat) (w : World) (hB : B ≤ w.heap.size) (hr : Ints w B A r.cs) (hr' : Ints w B A' s.cs) (hn : r.cs.length ≤ 1000000000) :
    Calls Try.prog 48 #[rnV r (.slice A r.cs.length cap), rnV s (.slice A' s.cs.length cap')] w fun e w' => e = .returned (.bool (decide (sameRn r s))) ∧ Below w.heap.size w w' := by
  have HH := Lib.hid (InRn2.start w r A cap s A' cap' (hr.up hB) (hr'.up hB))
  clear hr hr'
  by_cases h0 : r.size = s.size
  rotate_left
  · have HV : Hid (decide (sameRn r s) = false) := Lib.hid (decide_eq_false (fun h => h0 (h.1)))
    have d0 : (r.size != s.size) = true := by simpa using h0
    clear h0 hn
    go_enter Try.func48, Try.ntmps48
    obtain ⟨⟨a0, a1, a2, a3⟩, ⟨b0, b1, b2, b3⟩⟩ : (_ ∧ _) := ⟨HH.out.1.1, HH.out.2.1⟩
    go_wp2
    go_ret
    exact ⟨by rw [HV.out]; rfl, HH.out.1.2.2.2⟩
  have d0 : (r.size != s.size) = false := by simpa using h0
  by_cases h1 : r.base = s.base
  rotate_left
  · have HV : Hid (decide (sameRn r s) = false) := Lib.hid (decide_eq_false (fun h => h1 (h.2.1)))
    have d1 : (r.base != s.base) = true := by simpa using h1
    clear h0 h1 hn
    go_enter Try.func48, Try.ntmps48
    obtain ⟨⟨a0, a1, a2, a3⟩, ⟨b0, b1, b2, b3⟩⟩ : (_ ∧ _) := ⟨HH.out.1.1, HH.out.2.1⟩
    go_wp2
    go_ret
    exact ⟨by rw [HV.out]; rfl, HH.out.1.2.2.2⟩
  have d1 : (r.base != s.base) = false := by simpa using h1
  by_cases h2 : r.en = s.en
  rotate_left
  · have HV : Hid (decide (sameRn r s) = false) := Lib.hid (decide_eq_false (fun h => h2 (h.2.2.1)))
    have d2 : (r.en != s.en) = true := by simpa using h2
    clear h0 h1 h2 hn
    go_enter Try.func48, Try.ntmps48
    obtain ⟨⟨a0, a1, a2, a3⟩, ⟨b0, b1, b2, b3⟩⟩ : (_ ∧ _) := ⟨HH.out.1.1, HH.out.2.1⟩
    go_wp2
    go_ret
    exact ⟨by rw [HV.out]; rfl, HH.out.1.2.2.2⟩
  have d2 : (r.en != s.en) = false := by simpa using h2
  by_cases h3 : (r.cs.length : Int) = (s.cs.length : Int)
  rotate_left
  · have HV : Hid (decide (sameRn r s) = false) := Lib.hid (decide_eq_false (fun h => h3 (by rw [h.2.2.2])))
    have d3 : ((r.cs.length : Int) != (s.cs.length : Int)) = true := by simpa using h3
    clear h0 h1 h2 h3 hn
    go_enter Try.func48, Try.ntmps48
    obtain ⟨⟨a0, a1, a2, a3⟩, ⟨b0, b1, b2, b3⟩⟩ : (_ ∧ _) := ⟨HH.out.1.1, HH.out.2.1⟩
    go_wp2
    go_ret
    exact ⟨by rw [HV.out]; rfl, HH.out.1.2.2.2⟩
  have d3 : ((r.cs.length : Int) != (s.cs.length : Int)) = false := by simpa using h3
  have hl : r.cs.length = s.cs.length := by omega
  have HOK : Hid ((∀ j (h : j < r.cs.length) (h' : j < s.cs.length), r.cs[j] = s.cs[j]) → sameRn r s) := Lib.hid (fun h => ⟨h0, h1, h2, List.ext_getElem hl h⟩)
  have HNO : Hid (∀ j (h : j < r.cs.length) (h' : j < s.cs.length), r.cs[j] ≠ s.cs[j] → ¬ sameRn r s) := Lib.hid (fun j h h' hne hs => hne (by simp only [hs.2.2.2]))
  have HLL := Lib.hid hl
  clear h0 h1 h2 h3 hl
  go_enter Try.func48, Try.ntmps48
  obtain ⟨⟨a0, a1, a2, a3⟩, ⟨b0, b1, b2, b3⟩⟩ : (_ ∧ _) := ⟨HH.out.1.1, HH.out.2.1⟩
  go_wp2
  clear a0 a1 a2 a3 b0 b1 b2 b3 d0 d1 d2 d3
  go_loopw [5] (fun i wr => ∃ j : Nat, j ≤ r.cs.length ∧ i = .int .i64 j ∧ (∀ k (h : k < r.cs.length) (h' : k < s.cs.length), k < j → r.cs[k] = s.cs[k]) ∧ InRn2 w r A cap s A' cap' wr) (fun i _ => r.cs.length - (intOf i).toNat)
  case atStart => exact ⟨0, Nat.zero_le _, rfl, fun k _ _ h => absurd h (Nat.not_lt_zero k), HH.out⟩
  case round =>
    obtain ⟨j, hj, rfl, ht, hh⟩ := hrel
    have HH := Lib.hid hh
    have HT := Lib.hid ht
    clear ht hh
    obtain ⟨⟨a0, a1, a2, a3⟩, ⟨b0, b1, b2, b3⟩⟩ : (_ ∧ _) := ⟨HH.out.1.1, HH.out.2.1⟩
    by_cases hlt : j < r.cs.length
    · have hlt2 : j < s.cs.length := by have := HLL.out; omega
      obtain ⟨b, off, rfl, hbB, hc⟩ := HH.out.1.2.1 j hlt
      obtain ⟨b', off', rfl, hbB', hc'⟩ := HH.out.2.2.1 j hlt2
      have HNE := Lib.hid (HNO.out j hlt hlt2)
      have HSQ : Hid (r.cs[j] = s.cs[j] → ∀ k (h : k < r.cs.length) (h' : k < s.cs.length), k < j + 1 → r.cs[k] = s.cs[k]) := Lib.hid (fun he k h h' hk => by
        rcases Nat.lt_succ_iff_lt_or_eq.1 hk with h9 | h9
        · exact HT.out k h h' h9
        · subst h9; exact he)
      generalize r.cs[j] = x at *
      generalize s.cs[j] = y at *
      by_cases hxy : x = y
      · have dx : (x != y) = false := by simpa using hxy
        have HS2 := Lib.hid (HSQ.out hxy)
        clear hxy HSQ HNE
        go_upto_region 6 with fail
        go_region
        all_goals go_wp2
        all_goals go_roundw
        all_goals first | exact ⟨j + 1, hlt, by go_num, HS2.out, HH.out.next (Below.refl _ _).drew⟩ | (simp [intOf]; omega)
      · have dx : (x != y) = true := by simpa using hxy
        have HV : Hid (decide (sameRn r s) = false) := Lib.hid (decide_eq_false (HNE.out hxy))
        clear hxy HSQ HNE
        go_upto_region 6 with fail
        go_region
        all_goals go_wp2
        all_goals go_ret
        all_goals exact ⟨by rw [HV.out]; rfl, (HH.out.next (Below.refl _ _).drew).1.2.2.2⟩
    · obtain rfl : j = r.cs.length := by omega
      have HV : Hid (decide (sameRn r s) = true) := Lib.hid (decide_eq_true (HOK.out (fun k h h' => HT.out k h h' h)))
      go_wp2
      go_ret
      exact ⟨by rw [HV.out]; rfl, HH.out.1.2.2.2⟩
end Go.Proofs.Ytjohbfdifdjldac
