/-
  What impl.writeField returns.
-/
import Derived.Test.YtjbppociogoopaaDoorIFr6
import Derived.Test.YtjbppociogoopaaDoorIFr7
import Derived.Test.YtjbppociogoopaaDoorIEncQ
import Derived.Deep.RegionHeld3
import Derived.Deep.DeepCutAuto
import Derived.Deep.RegionLaw
namespace Go.Proofs.YtjbppociogoopaaDoor
open Go.RowKit Go.Deep Go.Proofs.YtjbppociogoopaaDoor.Num

theorem HeldI.drew {w W : World} {f : Fr} (h : HeldI w f W) : HeldI w f W.drew := ⟨h.1, h.2.drew⟩
/-- Of a number. -/
theorem iwr_num (f : Fr) (i n : Int) (w : World) (hF : Forms w) (hi : isN i) (h1 : i = 1 → f.offset ≠ 0) (hn : frL f = frL f ∧ (frL f)[i.toNat + 1]? = some (.int .i64 n)) (hr : wrK f i = encQ n) :
    Calls Tryd.prog 47 #[frV f, .int .i64 i] w fun e w' => e = .returned (.string ⟨(wrK f i).toArray⟩) ∧ Below w.heap.size w w' := by
  have H0 := Lib.hid (HeldI.start w f)
  have HE := Lib.hid (iencq n _ (hF.alloc (.cells (frC f) 25)))
  have HN := Lib.hid (inumber w.heap.size i hi)
  have HR := Lib.hid hr
  have hv := hn.2
  obtain ⟨q0, q1, q2, q3, q4, q5, q6, q7, q8⟩ := H0.out.1.cells
  clear hr hF hn
  rcases hi with rfl | rfl | rfl | rfl | rfl
  case inr.inl =>
    have h0 : (f.offset == 0) = false := by simpa using h1 rfl
    obtain rfl : f.offset = n := by injection Option.some.inj hv
    clear h1 hv
    go_enter Tryd.func47, Tryd.ntmps47
    go_wp2_with fail
    refine (HN.out _).mono ?_
    rintro e w1 ⟨rfl, rfl⟩
    go_wp2_with fail
    refine HE.out.mono ?_
    rintro e w2 ⟨rfl, hb⟩
    have H2 := Lib.hid (H0.out.next hb)
    clear hb
    go_wp2
    go_ret
    exact ⟨by rw [HR.out]; rfl, H2.out.2⟩
  case inl =>
    obtain rfl : f.stream = n := by injection Option.some.inj hv
    clear h1 hv
    go_enter Tryd.func47, Tryd.ntmps47
    go_wp2_with fail
    refine (HN.out _).mono ?_
    rintro e w1 ⟨rfl, rfl⟩
    go_wp2_with fail
    refine HE.out.mono ?_
    rintro e w2 ⟨rfl, hb⟩
    have H2 := Lib.hid (H0.out.next hb)
    clear hb
    go_wp2
    go_ret
    exact ⟨by rw [HR.out]; rfl, H2.out.2⟩
  case inr.inr.inl =>
    obtain rfl : f.code = n := by injection Option.some.inj hv
    clear h1 hv
    go_enter Tryd.func47, Tryd.ntmps47
    go_wp2_with fail
    refine (HN.out _).mono ?_
    rintro e w1 ⟨rfl, rfl⟩
    go_wp2_with fail
    refine HE.out.mono ?_
    rintro e w2 ⟨rfl, hb⟩
    have H2 := Lib.hid (H0.out.next hb)
    clear hb
    go_wp2
    go_ret
    exact ⟨by rw [HR.out]; rfl, H2.out.2⟩
  case inr.inr.inr.inl =>
    obtain rfl : f.limit = n := by injection Option.some.inj hv
    clear h1 hv
    go_enter Tryd.func47, Tryd.ntmps47
    go_wp2_with fail
    refine (HN.out _).mono ?_
    rintro e w1 ⟨rfl, rfl⟩
    go_wp2_with fail
    refine HE.out.mono ?_
    rintro e w2 ⟨rfl, hb⟩
    have H2 := Lib.hid (H0.out.next hb)
    clear hb
    go_wp2
    go_ret
    exact ⟨by rw [HR.out]; rfl, H2.out.2⟩
  case inr.inr.inr.inr =>
    obtain rfl : f.final = n := by injection Option.some.inj hv
    clear h1 hv
    go_enter Tryd.func47, Tryd.ntmps47
    go_wp2_with fail
    refine (HN.out _).mono ?_
    rintro e w1 ⟨rfl, rfl⟩
    go_wp2_with fail
    refine HE.out.mono ?_
    rintro e w2 ⟨rfl, hb⟩
    have H2 := Lib.hid (H0.out.next hb)
    clear hb
    go_wp2
    go_ret
    exact ⟨by rw [HR.out]; rfl, H2.out.2⟩

set_option maxRecDepth 100000 in
/-- .. of a field that writes nothing -/
theorem iwr_none (f : Fr) (i : Int) (w : World) (h : i = 3 ∨ i = 7 ∨ i = 1 ∧ f.offset = 0) :
    Calls Tryd.prog 47 #[frV f, .int .i64 i] w fun e w' => e = .returned (.string ⟨(wrK f i).toArray⟩) ∧ Below w.heap.size w w' := by
  have H0 := Lib.hid (HeldI.start w f)
  obtain ⟨q0, q1, q2, q3, q4, q5, q6, q7, q8⟩ := H0.out.1.cells
  rcases h with rfl | rfl | ⟨rfl, h0⟩
  · go_enter Tryd.func47, Tryd.ntmps47
    go_wp2
    go_ret
    exact ⟨rfl, H0.out.2⟩
  · go_enter Tryd.func47, Tryd.ntmps47
    go_wp2
    go_ret
    exact ⟨rfl, H0.out.2⟩
  · have HR : Hid (wrK f 1 = []) := Lib.hid (by unfold wrK; rw [if_neg (by decide), if_pos rfl, if_pos h0])
    have hb0 : (f.offset == 0) = true := by simpa using h0
    clear h0
    go_enter Tryd.func47, Tryd.ntmps47
    go_wp2
    go_ret
    exact ⟨by rw [HR.out]; rfl, H0.out.2⟩

set_option maxRecDepth 100000 in
set_option maxHeartbeats 1000000 in
/-- .. of the data -/
theorem iwr_data (f : Fr) (w : World) (hF : Forms w) (hs : f.data.size ≤ 400) :
    Calls Tryd.prog 47 #[frV f, .int .i64 2] w fun e w' => e = .returned (.string ⟨(wrK f 2).toArray⟩) ∧ Below w.heap.size w w' := by
  have H0 := Lib.hid (HeldI.start w f)
  have HR : Hid ((⟨(wrK f 2).toArray⟩ : ByteArray) = ⟨(encQ (f.data.size : Int)).toArray⟩ ++ f.data) := Lib.hid (by
    unfold wrK
    rw [if_neg (by decide), if_neg (by decide), if_pos rfl]
    apply ByteArray.ext
    simp)
  have hF1 := hF.alloc (.cells (frC f) 25)
  obtain ⟨q0, q1, q2, q3, q4, q5, q6, q7, q8⟩ := H0.out.1.cells
  have hsum : (encQ (f.data.size : Int)).length + f.data.size ≤ 9223372036854775807 := by
    rw [encQ_len]
    have : qsz (f.data.size : Int) ≤ 8 := by rcases qsz_cases (f.data.size : Int) with h | h | h | h | h <;> omega
    omega
  have hadd : ∀ W : World, (Op.stringOp .add (⟨(encQ (f.data.size : Int)).toArray⟩ : ByteArray) f.data).run Tryd.prog W = .ok (.string (⟨(encQ (f.data.size : Int)).toArray⟩ ++ f.data)) W := fun W => run_string_add_sum W _ _ (by show (encQ _).toArray.size + f.data.size ≤ _; simpa using hsum)
  clear hF
  go_enter Tryd.func47, Tryd.ntmps47
  go_upto_region 6 with fail
  have hsz : w.heap.size < (w.alloc (.cells (frC f) 25)).heap.size := H0.out.1.lt
  generalize w.alloc (.cells (frC f) 25) = w1 at *
  have HE : Hid (Calls Tryd.prog 71 #[.int .i64 (f.data.size : Int)] w1.drew fun e w' => e = .returned (.string ⟨(encQ (f.data.size : Int)).toArray⟩) ∧ Below w1.drew.heap.size w1.drew w') := Lib.hid (iencq f.data.size w1.drew hF1)
  have hS : ∀ W, Below w1.heap.size w1 W → W.cell? ⟨w.heap.size, 3, none⟩ = some (.string f.data) := fun W h => (h.cell hsz).trans q3
  generalize encQ (f.data.size : Int) = bs at *
  go_region_held3 (fun W => W.cell? ⟨w.heap.size, 3, none⟩ = some (.string f.data)) (first | exact hS _ (Below.refl _ _).drew | exact hS _ ((Below.refl _ _).drew.trans hb2)) (first | (go_at_call 71; refine (HE.out).mono ?_; rintro e w2 ⟨rfl, hb2⟩; have H2 := Lib.hid (H0.out.drew.next hb2)))
  all_goals go_wp2
  all_goals go_ret
  all_goals exact ⟨by rw [HR.out]; rfl, H2.out.2⟩

/-- impl.writeField -/
theorem iwr (f : Fr) (i : Int) (w : World) (hi : 0 ≤ i ∧ i ≤ 7) (hF : Forms w) (hs : f.data.size ≤ 400) :
    Calls Tryd.prog 47 #[frV f, .int .i64 i] w fun e w' => e = .returned (.string ⟨(wrK f i).toArray⟩) ∧ Below w.heap.size w w' := by
  rcases (show i = 0 ∨ i = 1 ∨ i = 2 ∨ i = 3 ∨ i = 4 ∨ i = 5 ∨ i = 6 ∨ i = 7 by omega) with rfl | rfl | rfl | rfl | rfl | rfl | rfl | rfl
  · exact iwr_num f 0 f.stream w hF (by unfold isN; omega) (by omega) ⟨rfl, rfl⟩ rfl
  · by_cases h0 : f.offset = 0
    · exact iwr_none f 1 w (by omega)
    · exact iwr_num f 1 f.offset w hF (by unfold isN; omega) (fun _ => h0) ⟨rfl, rfl⟩ (by unfold wrK; rw [if_neg (by decide), if_pos rfl, if_neg h0])
  · exact iwr_data f w hF hs
  · exact iwr_none f 3 w (by omega)
  · exact iwr_num f 4 f.code w hF (by unfold isN; omega) (by omega) ⟨rfl, rfl⟩ rfl
  · exact iwr_num f 5 f.limit w hF (by unfold isN; omega) (by omega) ⟨rfl, rfl⟩ rfl
  · exact iwr_num f 6 f.final w hF (by unfold isN; omega) (by omega) ⟨rfl, rfl⟩ rfl
  · exact iwr_none f 7 w (by omega)
end Go.Proofs.YtjbppociogoopaaDoor
