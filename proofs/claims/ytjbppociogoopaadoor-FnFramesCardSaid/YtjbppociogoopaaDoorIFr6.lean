/-
  What impl.IsFrame returns.
-/
import Derived.Test.YtjbppociogoopaaDoorIFr1
import Derived.Test.YtjbppociogoopaaDoorIFr4
namespace Go.Proofs.YtjbppociogoopaaDoor
open Go.RowKit Go.Deep Go.Proofs.YtjbppociogoopaaDoor.Num

/-- The numbers of a frame. -/
def numsF (f : Fr) : List Int := [f.stream, f.offset, f.code, f.limit, f.final]
theorem numsF_all (f : Fr) (h : ∀ z ∈ numsF f, inQ z) : inQ f.stream ∧ inQ f.offset ∧ inQ f.code ∧ inQ f.limit ∧ inQ f.final := by
  simp only [numsF, List.mem_cons, List.not_mem_nil, or_false, forall_eq_or_imp, forall_eq] at h
  exact h
theorem numsF_bad (f : Fr) (z : Int) (hz : z ∈ numsF f) (h : ¬ inQ z) : ¬ okF f := by
  rintro ⟨_, _, h1, h2, h3, h4, h5, _⟩
  simp only [numsF, List.mem_cons, List.not_mem_nil, or_false] at hz
  rcases hz with rfl | rfl | rfl | rfl | rfl
  · exact h h1
  · exact h h2
  · exact h h3
  · exact h h4
  · exact h h5
/-- The frame's block, and all that was there. -/
def HeldI (w : World) (f : Fr) (W : World) : Prop := BoxF W w.heap.size f ∧ Below w.heap.size w W
theorem HeldI.start (w : World) (f : Fr) : HeldI w f (w.alloc (.cells (frC f) 25)) := ⟨BoxF.new w f, (Below.refl _ _).alloc (Nat.le_refl _) _⟩
theorem HeldI.next {w W W1 : World} {f : Fr} (h : HeldI w f W) (hb : Below W.heap.size W W1) : HeldI w f W1 := ⟨h.1.below hb h.1.lt, h.2.trans (hb.mono h.2.size)⟩
theorem HeldI.alloc {w W : World} {f : Fr} (h : HeldI w f W) (ob : Obj) : HeldI w f (W.alloc ob) := ⟨h.1.alloc _, h.2.alloc h.2.size _⟩
theorem kname_empty (k : Int) (h : ¬ isK k) : (kname k).toList.isEmpty = true := by
  rw [kname_none k h, ByteArray.toList_eq]
  rfl
theorem kname_full (k : Int) (h : isK k) : (kname k).toList.isEmpty = false := by
  rw [ByteArray.toList_eq]
  rcases h with rfl | rfl | rfl | rfl | rfl | rfl | rfl | rfl | rfl <;> rfl

set_option maxRecDepth 100000 in
/-- impl.IsFrame, of no kind -/
theorem iisf_kind (f : Fr) (w : World) (hk : ¬ isK f.kind) :
    Calls Tryd.prog 15 #[frV f] w fun e w' => e = .returned (.bool (decide (okF f))) ∧ Below w.heap.size w w' := by
  have HR : Hid (decide (okF f) = false) := Lib.hid (decide_eq_false fun h => hk h.1)
  have he := kname_empty f.kind hk
  have HN := Lib.hid (iname f.kind)
  have H0 := Lib.hid (HeldI.start w f)
  obtain ⟨q0, q1, q2, q3, q4, q5, q6, q7, q8⟩ := H0.out.1.cells
  clear hk
  go_enter Tryd.func15, Tryd.ntmps15
  go_wp2_with fail
  refine (HN.out _).mono ?_
  rintro e w1 ⟨rfl, rfl⟩
  generalize kname f.kind = nm at *
  go_wp2
  go_ret
  exact ⟨by rw [HR.out]; rfl, H0.out.2⟩

set_option maxRecDepth 100000 in
/-- impl.IsFrame, where a field is set that the kind doesn't use, or there is too much data -/
theorem iisf_used (f : Fr) (w : World) (hk : isK f.kind) (h : unK f = true ∨ 400 < f.data.size) :
    Calls Tryd.prog 15 #[frV f] w fun e w' => e = .returned (.bool (decide (okF f))) ∧ Below w.heap.size w w' := by
  have HR : Hid (decide (okF f) = false) := Lib.hid (decide_eq_false fun hh => by
    rcases h with h | h
    · rw [(unK_used f hk).2 hh.2.1] at h
      cases h
    · have := hh.2.2.2.2.2.2.2.1
      omega)
  have he := kname_full f.kind hk
  have HN := Lib.hid (iname f.kind)
  have HU := Lib.hid (iunused f)
  have H0 := Lib.hid (HeldI.start w f)
  obtain ⟨q0, q1, q2, q3, q4, q5, q6, q7, q8⟩ := H0.out.1.cells
  have HH := Lib.hid h
  clear hk h
  go_enter Tryd.func15, Tryd.ntmps15
  go_wp2_with fail
  refine (HN.out _).mono ?_
  rintro e w1 ⟨rfl, rfl⟩
  generalize kname f.kind = nm at *
  go_wp2_with fail
  refine (HU.out _).mono ?_
  rintro e w2 ⟨rfl, hb⟩
  have H2 := Lib.hid (H0.out.next hb)
  clear hb q0 q1 q2 q3 q4 q5 q6 q7 q8
  obtain ⟨q0, q1, q2, q3, q4, q5, q6, q7, q8⟩ := H2.out.1.cells
  cases hu : unK f with
  | true =>
    go_wp2
    go_ret
    exact ⟨by rw [HR.out]; rfl, H2.out.2⟩
  | false =>
    have hd : decide (400 < (f.data.size : Int)) = true := decide_eq_true (by
      rcases HH.out with h | h
      · rw [hu] at h; cases h
      · omega)
    go_wp2
    go_ret
    exact ⟨by rw [HR.out]; rfl, H2.out.2⟩

set_option maxRecDepth 100000 in
set_option maxHeartbeats 1000000 in
/-- impl.IsFrame, where kind, fields and data are good -/
theorem iisf_main (f : Fr) (w : World) (hk : isK f.kind) (hu : unK f = false) (hs : f.data.size ≤ 400) :
    Calls Tryd.prog 15 #[frV f] w fun e w' => e = .returned (.bool (decide (okF f))) ∧ Below w.heap.size w w' := by
  have he := kname_full f.kind hk
  have hd : decide (400 < (f.data.size : Int)) = false := decide_eq_false (by omega)
  have HN := Lib.hid (iname f.kind)
  have HU := Lib.hid (iunused f)
  have H0 := Lib.hid (HeldI.start w f)
  have HG := Lib.hid (And.intro hk (And.intro ((unK_used f hk).1 hu) hs))
  obtain ⟨q0, q1, q2, q3, q4, q5, q6, q7, q8⟩ := H0.out.1.cells
  rw [hu] at HU
  clear hk hu
  go_enter Tryd.func15, Tryd.ntmps15
  go_wp2_with fail
  refine (HN.out _).mono ?_
  rintro e w1 ⟨rfl, rfl⟩
  generalize kname f.kind = nm at *
  go_wp2_with fail
  refine (HU.out _).mono ?_
  rintro e w2 ⟨rfl, hb⟩
  have H2 := Lib.hid (H0.out.next hb)
  clear hb q0 q1 q2 q3 q4 q5 q6 q7 q8
  obtain ⟨q0, q1, q2, q3, q4, q5, q6, q7, q8⟩ := H2.out.1.cells
  go_wp2
  have H3 := Lib.hid (H2.out.alloc (.cells (cellsN (numsF f)) 3))
  have HL := Lib.hid (Nums.lit w2 (numsF f) 3)
  clear q0 q1 q2 q3 q4 q5 q6 q7 q8
  obtain ⟨q0, q1, q2, q3, q4, q5, q6, q7, q8⟩ := H3.out.1.cells
  have e5 : (w2.alloc (.cells #[.int .i64 f.stream, .int .i64 f.offset, .int .i64 f.code, .int .i64 f.limit, .int .i64 f.final] 3)) = w2.alloc (.cells (cellsN (numsF f)) 3) := rfl
  rw [e5]
  clear e5
  have hl5 : (numsF f).length = 5 := rfl
  generalize w2.heap.size = g2 at *
  generalize w2.alloc (.cells (cellsN (numsF f)) 3) = w3 at *
  go_loop [31] (fun x => ∃ j : Nat, j ≤ 5 ∧ x = .int .i64 j ∧ ∀ z ∈ (numsF f).take j, inQ z) (fun x => 5 - (intOf x).toNat)
  case atStart => exact ⟨0, by omega, rfl, by simp⟩
  case round =>
    obtain ⟨j, hj, rfl, hin⟩ := hrel
    have HI := Lib.hid hin
    clear hin
    by_cases hlt : j < 5
    · obtain ⟨g, hga, _, _, hc⟩ := HL.out j (by omega)
      have hgg : g2 = g := by injection hga with h; injection h
      subst hgg
      have HM := Lib.hid (List.getElem_mem (l := numsF f) (by omega : j < (numsF f).length))
      have HS : Hid (inQ (numsF f)[j] → ∀ z ∈ (numsF f).take (j + 1), inQ z) := Lib.hid (fun h z hz => by
        rw [List.take_succ_eq_append_getElem (by omega)] at hz
        rcases List.mem_append.1 hz with hz | hz
        · exact HI.out z hz
        · rw [List.mem_singleton.1 hz]; exact h)
      generalize (numsF f)[j] = y at *
      clear hga
      by_cases h0 : y < 0
      · have HR : Hid (decide (okF f) = false) := Lib.hid (decide_eq_false (numsF_bad f y HM.out (by unfold inQ; omega)))
        go_wp2
        go_ret
        exact ⟨by rw [HR.out]; rfl, H3.out.2⟩
      · by_cases h1 : 4611686018427387903 < y
        · have HR : Hid (decide (okF f) = false) := Lib.hid (decide_eq_false (numsF_bad f y HM.out (by unfold inQ; omega)))
          go_wp2
          go_ret
          exact ⟨by rw [HR.out]; rfl, H3.out.2⟩
        · have HS2 := Lib.hid (HS.out (by unfold inQ; omega))
          go_wp2
          go_round
          case rel => exact ⟨j + 1, by omega, by go_num, HS2.out⟩
          case measure => simp [intOf]; omega
    · obtain rfl : j = 5 := by omega
      have ha := numsF_all f (by have h := HI.out; rwa [List.take_of_length_le (by rw [hl5]; exact Nat.le_refl _)] at h)
      have HO : Hid (okF f ↔ (f.kind = 8 → f.offset ≤ 4611686018427387903 - f.data.size) ∧ (f.kind = 18 ∨ f.kind = 22 → f.limit ≤ 1152921504606846976)) := Lib.hid
        ⟨fun h => h.2.2.2.2.2.2.2.2, fun h => ⟨HG.out.1, HG.out.2.1, ha.1, ha.2.1, ha.2.2.1, ha.2.2.2.1, ha.2.2.2.2, HG.out.2.2, h⟩⟩
      have hof := ha.2.1
      unfold inQ at hof
      clear ha
      by_cases h8 : f.kind = 8
      · have e8 : (f.kind == 8) = true := by simpa using h8
        have HR : Hid (decide (okF f) = decide (f.offset + (f.data.size : Int) ≤ 4611686018427387903)) := Lib.hid (by
          by_cases hx : f.offset + (f.data.size : Int) ≤ 4611686018427387903
          · rw [decide_eq_true hx]
            exact decide_eq_true (HO.out.2 ⟨fun _ => by omega, fun h => by omega⟩)
          · rw [decide_eq_false hx]
            exact decide_eq_false (fun h => hx (by have := (HO.out.1 h).1 h8; omega)))
        have hw : wrap64 (f.offset + (f.data.size : Int)) = f.offset + (f.data.size : Int) := by unfold wrap64; omega
        clear h8
        go_wp2
        go_ret
        exact ⟨by rw [HR.out]; rfl, H3.out.2⟩
      · have e8 : (f.kind == 8) = false := by simpa using h8
        by_cases h18 : f.kind = 18
        · have e18 : (f.kind == 18) = true := by simpa using h18
          have HR : Hid (decide (okF f) = decide (f.limit ≤ 1152921504606846976)) := Lib.hid (by
            by_cases hx : f.limit ≤ 1152921504606846976
            · rw [decide_eq_true hx]
              exact decide_eq_true (HO.out.2 ⟨fun h => absurd h h8, fun _ => hx⟩)
            · rw [decide_eq_false hx]
              exact decide_eq_false (fun h => hx ((HO.out.1 h).2 (Or.inl h18))))
          clear h8 h18
          go_wp2
          go_ret
          exact ⟨by rw [HR.out]; rfl, H3.out.2⟩
        · have e18 : (f.kind == 18) = false := by simpa using h18
          by_cases h22 : f.kind = 22
          · have e22 : (f.kind == 22) = true := by simpa using h22
            have HR : Hid (decide (okF f) = decide (f.limit ≤ 1152921504606846976)) := Lib.hid (by
              by_cases hx : f.limit ≤ 1152921504606846976
              · rw [decide_eq_true hx]
                exact decide_eq_true (HO.out.2 ⟨fun h => absurd h h8, fun _ => hx⟩)
              · rw [decide_eq_false hx]
                exact decide_eq_false (fun h => hx ((HO.out.1 h).2 (Or.inr h22))))
            clear h8 h18 h22
            go_wp2
            go_ret
            exact ⟨by rw [HR.out]; rfl, H3.out.2⟩
          · have e22 : (f.kind == 22) = false := by simpa using h22
            have HR : Hid (decide (okF f) = true) := Lib.hid (decide_eq_true (HO.out.2 ⟨fun h => absurd h h8, fun h => by rcases h with h | h <;> contradiction⟩))
            clear h8 h18 h22
            go_wp2
            go_ret
            exact ⟨by rw [HR.out]; rfl, H3.out.2⟩
/-- impl.IsFrame -/
theorem iisf (f : Fr) (w : World) :
    Calls Tryd.prog 15 #[frV f] w fun e w' => e = .returned (.bool (decide (okF f))) ∧ Below w.heap.size w w' := by
  by_cases hk : isK f.kind
  · by_cases h : unK f = true ∨ 400 < f.data.size
    · exact iisf_used f w hk h
    · exact iisf_main f w hk (by cases hu : unK f with | false => rfl | true => exact absurd (Or.inl hu) h) (by omega)
  · exact iisf_kind f w hk
end Go.Proofs.YtjbppociogoopaaDoor
