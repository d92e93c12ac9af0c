/-
  What impl.frameType, frameNumber and kindOfType return; the fields of a kind in a block whose type is known.
  What impl.writeField returns.
  A strings.Builder of the call's own: what its methods leave as it was, WriteByte and Len.
  What impl.EncodeFrame and impl.FrameSize return.
  What impl.readData and impl.readField return.
  What impl.DecodeFrame returns.
  What impl.DecodeFrame returns, at a byte.
  What impl.EncodePayload returns.
  What impl.DecodePayload returns.
-/
import Derived.Test.YtjbppociogoopaaDoorIFr2
import Derived.Test.YtjbppociogoopaaDoorIFr6
import Derived.Test.YtjbppociogoopaaDoorIEncQ
import Derived.Deep.RegionHeld3
import Derived.Deep.DeepCutAuto
import Derived.Deep.RegionLaw
import Derived.Test.YtjbppociogoopaaDoorBuild
import Derived.Test.YtjbppociogoopaaDoorFrN3
import Derived.Test.YtjbppociogoopaaDoorIDecQ
import Derived.Test.YtjbppociogoopaaDoorFrV
import Derived.Test.YtjbppociogoopaaDoorSFr6
import Derived.Test.YtjbppociogoopaaDoorSFr9
import Derived.Test.YtjbppociogoopaaDoorSFr10
namespace Go.Proofs.YtjbppociogoopaaDoor
open Go.RowKit Go.Deep Go.Proofs.YtjbppociogoopaaDoor.Num

/-- A row of fields in a block that is new since K, of the fields' type. -/
def Flds (w : World) (K : Nat) (A : Option Addr) (l : List Int) : Prop := ∀ j, j < l.length → ∃ g, A = some ⟨g, 0, none⟩ ∧ K ≤ g ∧ g < w.heap.size ∧ w.heap[g]? = some (.cells (cellsN l) 67 (0, 0))
theorem Flds.nums {w : World} {K : Nat} {A : Option Addr} {l : List Int} (h : Flds w K A l) : Nums w K A l := fun j hj => by
  obtain ⟨g, e, hk, hg, hc⟩ := h j hj
  refine ⟨g, e, hk, hg, ?_⟩
  rw [cell_of_row _ _ j _ _ _ hc]
  simp [cellsN, hj]
theorem Flds.kept {w w' : World} {K : Nat} {A : Option Addr} {l : List Int} (h : Flds w K A l) (hs : w.heap.size ≤ w'.heap.size) (hb : ∀ g, K ≤ g → g < w.heap.size → (∀ cs fz, w.heap[g]? ≠ some (.cells cs 5 fz)) → w'.heap[g]? = w.heap[g]?) : Flds w' K A l := fun j hj => by
  obtain ⟨g, e, hk, hg, hc⟩ := h j hj
  refine ⟨g, e, hk, Nat.lt_of_lt_of_le hg hs, (hb g hk hg (fun cs fz h => ?_)).trans hc⟩
  rw [hc] at h
  injection h with h
  injection h with _ h _
  exact absurd h (by decide)
theorem Flds.below {w w' : World} {K : Nat} {A : Option Addr} {l : List Int} (h : Flds w K A l) (hb : Below w.heap.size w w') : Flds w' K A l := h.kept hb.size fun g _ hg _ => hb.block g hg
theorem Flds.lit (w : World) (l : List Int) : Flds (w.alloc (.cells (cellsN l) 67)) w.heap.size (some ⟨w.heap.size, 0, none⟩) l := fun _ _ =>
  ⟨w.heap.size, rfl, Nat.le_refl _, by simp, heap_alloc_new w _⟩

set_option maxRecDepth 100000 in
/-- impl.kindFields -/
theorem iflds (k : Int) (w : World) :
    Calls Tryd.prog 45 #[.int .i64 k] w fun e w' => (∃ A cap, e = .returned (.slice A (fieldsK k).length cap) ∧ Flds w' w.heap.size A (fieldsK k)) ∧ Below w.heap.size w w' := by
  by_cases h : isK k
  · rcases h with rfl | rfl | rfl | rfl | rfl | rfl | rfl | rfl | rfl
    all_goals (
      go_enter Tryd.func45, Tryd.ntmps45
      go_wp2
      go_ret
      exact ⟨⟨_, _, rfl, Flds.lit w _⟩, (Below.refl _ _).alloc (Nat.le_refl _) _⟩)
  · have hn : fieldsK k = [] := by
      unfold isK at h
      unfold fieldsK
      repeat rw [if_neg (by omega)]
    rw [hn]
    unfold isK at h
    have e1 : (k == 4) = false := by simp; omega
    have e2 : (k == 5) = false := by simp; omega
    have e3 : (k == 8) = false := by simp; omega
    have e4 : (k == 16) = false := by simp; omega
    have e5 : (k == 17) = false := by simp; omega
    have e6 : (k == 18) = false := by simp; omega
    have e7 : (k == 20) = false := by simp; omega
    have e8 : (k == 21) = false := by simp; omega
    have e9 : (k == 22) = false := by simp; omega
    clear h hn
    go_enter Tryd.func45, Tryd.ntmps45
    go_wp2
    go_ret
    exact ⟨⟨_, _, rfl, fun j hj => absurd hj (by simp)⟩, Below.refl _ _⟩

/-- The fields that are numbers. -/
def isN (i : Int) : Prop := i = 0 ∨ i = 1 ∨ i = 4 ∨ i = 5 ∨ i = 6
set_option maxRecDepth 100000 in
/-- impl.frameNumber -/
theorem inumber (g : Nat) (i : Int) (h : isN i) (w : World) :
    Calls Tryd.prog 72 #[.pointer (some ⟨g, 0, none⟩), .int .i64 i] w fun e w' => e = .returned (.pointer (some ⟨g, i.toNat + 1, none⟩)) ∧ w' = w := by
  rcases h with rfl | rfl | rfl | rfl | rfl
  all_goals (
    go_enter Tryd.func72, Tryd.ntmps72
    go_wp2
    go_ret
    exact ⟨rfl, rfl⟩)

theorem u8_8_2 : bits .or .u8 8 2 = 10 := by decide
theorem u8_10_4 : bits .or .u8 10 4 = 14 := by decide
theorem u8_10_1 : bits .or .u8 10 1 = 11 := by decide
theorem u8_14_1 : bits .or .u8 14 1 = 15 := by decide
theorem u8_18_1 : bits .or .u8 18 1 = 19 := by decide
theorem u8_22_1 : bits .or .u8 22 1 = 23 := by decide
set_option maxRecDepth 100000 in
set_option maxHeartbeats 2000000 in
/-- impl.frameType -/
theorem itype (f : Fr) (w : World) (hok : okF f) :
    Calls Tryd.prog 44 #[frV f] w fun e w' => e = .returned (.int .u8 (typF f)) ∧ Below w.heap.size w w' := by
  have b1 := u8_8_2
  have b2 := u8_10_4
  have b3 := u8_10_1
  have b4 := u8_14_1
  have b5 := u8_18_1
  have b6 := u8_22_1
  obtain ⟨hk, hu, _⟩ := hok
  obtain ⟨k, st, ofs, dt, fi, co, li, fl, un⟩ := f
  have hk' : isK k := hk
  clear hk
  unfold usedF at hu
  simp only [Fr.mk.injEq] at hu
  obtain ⟨_, _, ho, _, hf, _, _, _, hun⟩ := hu
  rcases hk' with rfl | rfl | rfl | rfl | rfl | rfl | rfl | rfl | rfl
  case inr.inr.inl =>
    obtain rfl : un = false := by simpa using hun.symm
    clear ho hf hun
    by_cases h0 : ofs = 0
    · subst h0
      cases fi
      all_goals (
        go_enter Tryd.func44, Tryd.ntmps44
        go_wp2
        go_ret
        exact ⟨rfl, (Below.refl _ _).alloc (Nat.le_refl _) _⟩)
    · have hb0 : (ofs != 0) = true := by simpa using h0
      have HT : Hid (typF ⟨8, st, ofs, dt, fi, co, li, fl, false⟩ = if fi = true then 15 else 14) := Lib.hid (by
        unfold typF
        rw [if_pos rfl, if_neg h0])
      clear h0
      cases fi
      all_goals (
        go_enter Tryd.func44, Tryd.ntmps44
        go_wp2
        go_ret
        exact ⟨by rw [HT.out]; rfl, (Below.refl _ _).alloc (Nat.le_refl _) _⟩)
  case inr.inr.inr.inr.inr.inl =>
    obtain rfl : ofs = 0 := by simpa using ho.symm
    obtain rfl : fi = false := by simpa using hf.symm
    clear ho hf hun
    cases un
    all_goals (
      go_enter Tryd.func44, Tryd.ntmps44
      go_wp2
      go_ret
      exact ⟨rfl, (Below.refl _ _).alloc (Nat.le_refl _) _⟩)
  case inr.inr.inr.inr.inr.inr.inr.inr =>
    obtain rfl : ofs = 0 := by simpa using ho.symm
    obtain rfl : fi = false := by simpa using hf.symm
    clear ho hf hun
    cases un
    all_goals (
      go_enter Tryd.func44, Tryd.ntmps44
      go_wp2
      go_ret
      exact ⟨rfl, (Below.refl _ _).alloc (Nat.le_refl _) _⟩)
  all_goals (
    obtain rfl : ofs = 0 := by simpa using ho.symm
    obtain rfl : fi = false := by simpa using hf.symm
    obtain rfl : un = false := by simpa using hun.symm
    clear ho hf hun
    go_enter Tryd.func44, Tryd.ntmps44
    go_wp2
    go_ret
    exact ⟨rfl, (Below.refl _ _).alloc (Nat.le_refl _) _⟩)

theorem not7 : ∀ c : Fin 256, bits .andNot .u8 (c.val : Int) 7 = ((c.val - c.val % 8 : Nat) : Int) := by decide +kernel
theorem not1 : ∀ c : Fin 256, bits .andNot .u8 (c.val : Int) 1 = ((c.val - c.val % 2 : Nat) : Int) := by decide +kernel
set_option maxRecDepth 100000 in
/-- impl.kindOfType -/
theorem ikind (c : Nat) (hc : c < 256) (w : World) :
    Calls Tryd.prog 49 #[.int .u8 (c : Int)] w fun e w' => e = .returned (.int .i64 (kinT c)) ∧ w' = w := by
  have h7 := not7 ⟨c, hc⟩
  have h1 := not1 ⟨c, hc⟩
  dsimp only at h7 h1
  obtain ⟨x, hx⟩ : ∃ x : Int, ((c - c % 8 : Nat) : Int) = x := ⟨_, rfl⟩
  obtain ⟨y, hy⟩ : ∃ y : Int, ((c - c % 2 : Nat) : Int) = y := ⟨_, rfl⟩
  rw [hx] at h7
  rw [hy] at h1
  by_cases ha : 8 ≤ c ∧ c < 16
  · have HR : Hid (kinT c = 8) := Lib.hid (by unfold kinT; rw [if_pos ha])
    have e8 : (x == 8) = true := by simp; omega
    clear ha hx hy
    go_enter Tryd.func49, Tryd.ntmps49
    go_wp2
    go_ret
    exact ⟨by rw [HR.out]; rfl, rfl⟩
  · have e8 : (x == 8) = false := by simp; omega
    by_cases hb : c = 18 ∨ c = 19
    · have HR : Hid (kinT c = 18) := Lib.hid (by unfold kinT; rw [if_neg ha, if_pos hb])
      obtain rfl : y = 18 := by omega
      clear ha hx hy hb
      go_enter Tryd.func49, Tryd.ntmps49
      go_wp2
      go_ret
      exact ⟨by rw [HR.out]; rfl, rfl⟩
    · have e18 : (y == 18) = false := by simp; omega
      by_cases hd : c = 22 ∨ c = 23
      · have HR : Hid (kinT c = 22) := Lib.hid (by unfold kinT; rw [if_neg ha, if_neg hb, if_pos hd])
        obtain rfl : y = 22 := by omega
        clear ha hx hy hb hd
        go_enter Tryd.func49, Tryd.ntmps49
        go_wp2
        go_ret
        exact ⟨by rw [HR.out]; rfl, rfl⟩
      · have HR : Hid (kinT c = c) := Lib.hid (by unfold kinT; rw [if_neg ha, if_neg hb, if_neg hd])
        have e22 : (y == 22) = false := by simp; omega
        have hw : wrap64 (c : Int) = (c : Int) := by unfold wrap64; omega
        clear ha hx hy hb hd
        go_enter Tryd.func49, Tryd.ntmps49
        go_wp2
        go_ret
        exact ⟨by rw [HR.out]; first | rfl | (congr 2; rw [IntKind.wrap_i64]; omega), rfl⟩
end Go.Proofs.YtjbppociogoopaaDoor

namespace Go.Proofs.YtjbppociogoopaaDoor
open Go.RowKit Go.Deep Go.Proofs.YtjbppociogoopaaDoor.Num

theorem HeldI.drew {w W : World} {f : Fr} (h : HeldI w f W) : HeldI w f W.drew := ⟨h.1, h.2.drew⟩
/-- Of a number. -/
theorem iwr_num (f : Fr) (i n : Int) (w : World) (hF : Forms w) (hi : isN i) (h1 : i = 1 → f.offset ≠ 0) (hn : frL f = frL f ∧ (frL f)[i.toNat + 1]? = some (.int .i64 n)) (hr : wrK f i = encQ n) :
    Calls Tryd.prog 47 #[frV f, .int .i64 i] w fun e w' => e = .returned (.string ⟨(wrK f i).toArray⟩) ∧ Below w.heap.size w w' := by
  have H0 := Lib.hid (HeldI.start w f)
  have HE := Lib.hid (iencq n _ (hF.alloc (.cells (frC f) 25)))
  have HN := Lib.hid (inumber w.heap.size i hi)
  have HR := Lib.hid hr
  have hv := hn.2
  obtain ⟨q0, q1, q2, q3, q4, q5, q6, q7, q8⟩ := H0.out.1.cells
  clear hr hF hn
  rcases hi with rfl | rfl | rfl | rfl | rfl
  case inr.inl =>
    have h0 : (f.offset == 0) = false := by simpa using h1 rfl
    obtain rfl : f.offset = n := by injection Option.some.inj hv
    clear h1 hv
    go_enter Tryd.func47, Tryd.ntmps47
    go_wp2_with fail
    refine (HN.out _).mono ?_
    rintro e w1 ⟨rfl, rfl⟩
    go_wp2_with fail
    refine HE.out.mono ?_
    rintro e w2 ⟨rfl, hb⟩
    have H2 := Lib.hid (H0.out.next hb)
    clear hb
    go_wp2
    go_ret
    exact ⟨by rw [HR.out]; rfl, H2.out.2⟩
  case inl =>
    obtain rfl : f.stream = n := by injection Option.some.inj hv
    clear h1 hv
    go_enter Tryd.func47, Tryd.ntmps47
    go_wp2_with fail
    refine (HN.out _).mono ?_
    rintro e w1 ⟨rfl, rfl⟩
    go_wp2_with fail
    refine HE.out.mono ?_
    rintro e w2 ⟨rfl, hb⟩
    have H2 := Lib.hid (H0.out.next hb)
    clear hb
    go_wp2
    go_ret
    exact ⟨by rw [HR.out]; rfl, H2.out.2⟩
  case inr.inr.inl =>
    obtain rfl : f.code = n := by injection Option.some.inj hv
    clear h1 hv
    go_enter Tryd.func47, Tryd.ntmps47
    go_wp2_with fail
    refine (HN.out _).mono ?_
    rintro e w1 ⟨rfl, rfl⟩
    go_wp2_with fail
    refine HE.out.mono ?_
    rintro e w2 ⟨rfl, hb⟩
    have H2 := Lib.hid (H0.out.next hb)
    clear hb
    go_wp2
    go_ret
    exact ⟨by rw [HR.out]; rfl, H2.out.2⟩
  case inr.inr.inr.inl =>
    obtain rfl : f.limit = n := by injection Option.some.inj hv
    clear h1 hv
    go_enter Tryd.func47, Tryd.ntmps47
    go_wp2_with fail
    refine (HN.out _).mono ?_
    rintro e w1 ⟨rfl, rfl⟩
    go_wp2_with fail
    refine HE.out.mono ?_
    rintro e w2 ⟨rfl, hb⟩
    have H2 := Lib.hid (H0.out.next hb)
    clear hb
    go_wp2
    go_ret
    exact ⟨by rw [HR.out]; rfl, H2.out.2⟩
  case inr.inr.inr.inr =>
    obtain rfl : f.final = n := by injection Option.some.inj hv
    clear h1 hv
    go_enter Tryd.func47, Tryd.ntmps47
    go_wp2_with fail
    refine (HN.out _).mono ?_
    rintro e w1 ⟨rfl, rfl⟩
    go_wp2_with fail
    refine HE.out.mono ?_
    rintro e w2 ⟨rfl, hb⟩
    have H2 := Lib.hid (H0.out.next hb)
    clear hb
    go_wp2
    go_ret
    exact ⟨by rw [HR.out]; rfl, H2.out.2⟩

set_option maxRecDepth 100000 in
/-- .. of a field that writes nothing -/
theorem iwr_none (f : Fr) (i : Int) (w : World) (h : i = 3 ∨ i = 7 ∨ i = 1 ∧ f.offset = 0) :
    Calls Tryd.prog 47 #[frV f, .int .i64 i] w fun e w' => e = .returned (.string ⟨(wrK f i).toArray⟩) ∧ Below w.heap.size w w' := by
  have H0 := Lib.hid (HeldI.start w f)
  obtain ⟨q0, q1, q2, q3, q4, q5, q6, q7, q8⟩ := H0.out.1.cells
  rcases h with rfl | rfl | ⟨rfl, h0⟩
  · go_enter Tryd.func47, Tryd.ntmps47
    go_wp2
    go_ret
    exact ⟨rfl, H0.out.2⟩
  · go_enter Tryd.func47, Tryd.ntmps47
    go_wp2
    go_ret
    exact ⟨rfl, H0.out.2⟩
  · have HR : Hid (wrK f 1 = []) := Lib.hid (by unfold wrK; rw [if_neg (by decide), if_pos rfl, if_pos h0])
    have hb0 : (f.offset == 0) = true := by simpa using h0
    clear h0
    go_enter Tryd.func47, Tryd.ntmps47
    go_wp2
    go_ret
    exact ⟨by rw [HR.out]; rfl, H0.out.2⟩

set_option maxRecDepth 100000 in
set_option maxHeartbeats 1000000 in
/-- .. of the data -/
theorem iwr_data (f : Fr) (w : World) (hF : Forms w) (hs : f.data.size ≤ 400) :
    Calls Tryd.prog 47 #[frV f, .int .i64 2] w fun e w' => e = .returned (.string ⟨(wrK f 2).toArray⟩) ∧ Below w.heap.size w w' := by
  have H0 := Lib.hid (HeldI.start w f)
  have HR : Hid ((⟨(wrK f 2).toArray⟩ : ByteArray) = ⟨(encQ (f.data.size : Int)).toArray⟩ ++ f.data) := Lib.hid (by
    unfold wrK
    rw [if_neg (by decide), if_neg (by decide), if_pos rfl]
    apply ByteArray.ext
    simp)
  have hF1 := hF.alloc (.cells (frC f) 25)
  obtain ⟨q0, q1, q2, q3, q4, q5, q6, q7, q8⟩ := H0.out.1.cells
  have hsum : (encQ (f.data.size : Int)).length + f.data.size ≤ 9223372036854775807 := by
    rw [encQ_len]
    have : qsz (f.data.size : Int) ≤ 8 := by rcases qsz_cases (f.data.size : Int) with h | h | h | h | h <;> omega
    omega
  have hadd : ∀ W : World, (Op.stringOp .add (⟨(encQ (f.data.size : Int)).toArray⟩ : ByteArray) f.data).run Tryd.prog W = .ok (.string (⟨(encQ (f.data.size : Int)).toArray⟩ ++ f.data)) W := fun W => run_string_add_sum W _ _ (by show (encQ _).toArray.size + f.data.size ≤ _; simpa using hsum)
  clear hF
  go_enter Tryd.func47, Tryd.ntmps47
  go_upto_region 6 with fail
  have hsz : w.heap.size < (w.alloc (.cells (frC f) 25)).heap.size := H0.out.1.lt
  generalize w.alloc (.cells (frC f) 25) = w1 at *
  have HE : Hid (Calls Tryd.prog 71 #[.int .i64 (f.data.size : Int)] w1.drew fun e w' => e = .returned (.string ⟨(encQ (f.data.size : Int)).toArray⟩) ∧ Below w1.drew.heap.size w1.drew w') := Lib.hid (iencq f.data.size w1.drew hF1)
  have hS : ∀ W, Below w1.heap.size w1 W → W.cell? ⟨w.heap.size, 3, none⟩ = some (.string f.data) := fun W h => (h.cell hsz).trans q3
  generalize encQ (f.data.size : Int) = bs at *
  go_region_held3 (fun W => W.cell? ⟨w.heap.size, 3, none⟩ = some (.string f.data)) (first | exact hS _ (Below.refl _ _).drew | exact hS _ ((Below.refl _ _).drew.trans hb2)) (first | (go_at_call 71; refine (HE.out).mono ?_; rintro e w2 ⟨rfl, hb2⟩; have H2 := Lib.hid (H0.out.drew.next hb2)))
  all_goals go_wp2
  all_goals go_ret
  all_goals exact ⟨by rw [HR.out]; rfl, H2.out.2⟩

/-- impl.writeField -/
theorem iwr (f : Fr) (i : Int) (w : World) (hi : 0 ≤ i ∧ i ≤ 7) (hF : Forms w) (hs : f.data.size ≤ 400) :
    Calls Tryd.prog 47 #[frV f, .int .i64 i] w fun e w' => e = .returned (.string ⟨(wrK f i).toArray⟩) ∧ Below w.heap.size w w' := by
  rcases (show i = 0 ∨ i = 1 ∨ i = 2 ∨ i = 3 ∨ i = 4 ∨ i = 5 ∨ i = 6 ∨ i = 7 by omega) with rfl | rfl | rfl | rfl | rfl | rfl | rfl | rfl
  · exact iwr_num f 0 f.stream w hF (by unfold isN; omega) (by omega) ⟨rfl, rfl⟩ rfl
  · by_cases h0 : f.offset = 0
    · exact iwr_none f 1 w (by omega)
    · exact iwr_num f 1 f.offset w hF (by unfold isN; omega) (fun _ => h0) ⟨rfl, rfl⟩ (by unfold wrK; rw [if_neg (by decide), if_pos rfl, if_neg h0])
  · exact iwr_data f w hF hs
  · exact iwr_none f 3 w (by omega)
  · exact iwr_num f 4 f.code w hF (by unfold isN; omega) (by omega) ⟨rfl, rfl⟩ rfl
  · exact iwr_num f 5 f.limit w hF (by unfold isN; omega) (by omega) ⟨rfl, rfl⟩ rfl
  · exact iwr_num f 6 f.final w hF (by unfold isN; omega) (by omega) ⟨rfl, rfl⟩ rfl
  · exact iwr_none f 7 w (by omega)
end Go.Proofs.YtjbppociogoopaaDoor

namespace Go.Proofs.YtjbppociogoopaaDoor
open Go.RowKit Go.Deep Go.Proofs.YtjbppociogoopaaDoor.Num

/-- Every block that is there but b, and that is no row of bytes, is as it was. -/
def Spares (b : Nat) (w w' : World) : Prop := ∀ k, k < w.heap.size → k ≠ b → (∀ cs fz, w.heap[k]? ≠ some (.cells cs 5 fz)) → w'.heap[k]? = w.heap[k]?
theorem Spares.refl (b : Nat) (w : World) : Spares b w w := fun _ _ _ _ => rfl
theorem Spares.trans {b : Nat} {w w1 w2 : World} (h : Spares b w w1) (hs : w.heap.size ≤ w1.heap.size) (h2 : Spares b w1 w2) : Spares b w w2 := fun k hk hb hn => by
  have e := h k hk hb hn
  exact (h2 k (Nat.lt_of_lt_of_le hk hs) hb (fun cs fz => by rw [e]; exact hn cs fz)).trans e
theorem Spares.set {b : Nat} {w w1 : World} (h : Spares b w w1) (j : Nat) (v : Value) : Spares b w (w1.setCell ⟨b, j, none⟩ v) := fun k hk hb hn =>
  (Below.heap_setCell _ ⟨b, j, none⟩ v k hb).trans (h k hk hb hn)
theorem Spares.alloc {b : Nat} {w w1 : World} (h : Spares b w w1) (hs : w.heap.size ≤ w1.heap.size) (o : Obj) : Spares b w (w1.alloc o) := fun k hk hb hn =>
  (Below.heap_alloc _ o k (Nat.lt_of_lt_of_le hk hs)).trans (h k hk hb hn)
theorem Spares.grown {b : Nat} {w w1 w2 : World} {base n : Nat} {v : Value} {xs : List Value} (h : Spares b w w1) (hs : w.heap.size ≤ w1.heap.size) (ho : w1.ownsRow base 5 1 v n xs) (hg : w1.grownBy w2 v.ownBlock) : Spares b w w2 := fun k hk hb hn => by
  refine (hg.block k (Nat.lt_of_lt_of_le hk hs) (fun e => ?_)).trans (h k hk hb hn)
  rcases ho.2 with ⟨rfl, _⟩ | ⟨g, cap, cur, rfl, _, hgk, _⟩
  · cases e
  · have e2 : k = g := Option.some.inj e
    subst e2
    rw [h k hk hb hn] at hgk
    exact hn _ _ hgk

/-- A byte, alone in a row. -/
theorem byte_cells (c : UInt8) : [Value.int .u8 (c.toNat : Int)] = Lib.byteCells [c] := rfl
theorem checkK (B b : Nat) (bs : List Value) (w : World) (h : Lib.IsBuilder 60 5 B b bs w) :
    Calls Tryd.prog 70 #[.pointer (some ⟨b, 0, none⟩)] w fun e w' => e = .returned (.tuple #[]) ∧ Lib.BuilderAt 60 5 B b (.pointer (some ⟨b, 0, none⟩)) bs w' ∧ Below B w w' ∧ Spares b w w' := by
  rcases h with h | h
  · refine (check_fresh b w h.cell0 h.shape h.frozen0).mono ?_
    rintro e w' ⟨rfl, rfl⟩
    exact ⟨rfl, h.used _, (Below.refl B w).setCell (p := ⟨b, 0, none⟩) h.1 _, (Spares.refl b w).set 0 _⟩
  · refine (check_used b w h.cell0).mono ?_
    rintro e w' ⟨rfl, rfl⟩
    exact ⟨rfl, h, Below.refl B _, Spares.refl b _⟩

set_option maxRecDepth 100000 in
set_option maxHeartbeats 800000 in
/-- WriteString -/
theorem bwriteK (B b : Nat) (l r : List UInt8) (w : World) (h : Builds w B b l) (hlen : l.length + r.length ≤ 140737488355328) (hBw : B ≤ w.heap.size) :
    Calls Tryd.prog 46 #[.pointer (some ⟨b, 0, none⟩), .string ⟨r.toArray⟩] w fun e w' => (∃ v, e = .returned v) ∧ Builds w' B b (l ++ r) ∧ Below B w w' ∧ Spares b w w' := by
  obtain ⟨i0, hi, hz0, hz1, hz2⟩ := info_parts infoB
  have HC := Lib.hid (checkK B b _ w h)
  clear h
  go_enter Tryd.func46, Tryd.ntmps46
  go_wp2_with fail
  refine HC.out.mono ?_
  rintro e w1 ⟨rfl, h1, hb1, hk1⟩
  obtain ⟨hB, v, hbk, hown, hne⟩ := h1
  have c1 : w1.cell? ⟨b, 1, none⟩ = some v := by rw [Lib.cell_of_heap hbk]; rfl
  have hsz : (⟨r.toArray⟩ : ByteArray).size = r.length := by simp [ByteArray.size]
  go_wp2_with (at_builtin; refine Lib.wpList_append_own_string _ rfl _ _ 22 9 rfl B 5 i0 Tryd.underlying22 Tryd.underlying9 hi hz0 hz1 hz2 _ _ _ rfl hown ⟨r.toArray⟩ rfl ?c3 ?c4 ?c5 ?_)
  case c3 => rw [Lib.byteCells_length, hsz]; unfold maxLen; omega
  case c4 => rw [Lib.byteCells_length, hsz]; omega
  case c5 => exact Nat.le_trans hBw hb1.size
  intro v' w2 hown' hgrow _
  have hlt : b < w1.heap.size := (Array.getElem?_eq_some_iff.1 hbk).1
  have hb2 : w2.heap[b]? = some (.cells #[.pointer (some ⟨b, 0, none⟩), v] 60 (0, 0)) := by
    rw [hgrow.block b hlt (fun e => hne e.symm)]
    exact hbk
  have d1 : w2.cell? ⟨b, 1, none⟩ = some v := by rw [Lib.cell_of_heap hb2]; rfl
  have f1 : w2.frozen? ⟨b, 1, none⟩ = false := Lib.frozen_of_heap hb2 1
  have HO := Lib.hid hown'
  have HG := Lib.hid (hb1.grown hgrow (Nat.le_trans hBw hb1.size) (fun k hk => (hown.lt k hk).1))
  have HK := Lib.hid (hk1.grown hb1.size hown hgrow)
  obtain ⟨ao, n', cap, rfl⟩ : ∃ ao n' cap, v' = .slice ao n' cap := by
    rcases hown'.2 with ⟨hv, _⟩ | ⟨g, cap, cur, hv, _⟩
    · exact ⟨_, _, _, hv⟩
    · exact ⟨_, _, _, hv⟩
  clear hown' hgrow hb1 hbk hown hlt hne hk1
  go_wp2
  go_ret2
  refine ⟨⟨_, rfl⟩, .inr ?_, HG.out.setCell (p := ⟨b, 1, none⟩) hB _, HK.out.set 1 _⟩
  have ho := HO.out
  rw [show Lib.strCells ⟨r.toArray⟩ = Lib.byteCells r from rfl, ← Lib.byteCells_append, Lib.byteCells_length] at ho
  exact Lib.BuilderAt.put (T := 60) (e := 5) hB hb2 (bs' := Lib.byteCells (l ++ r)) (by simpa [Lib.byteCells_length] using ho) (by decide)

set_option maxRecDepth 100000 in
set_option maxHeartbeats 800000 in
/-- WriteByte -/
theorem bbyteK (B b : Nat) (l : List UInt8) (c : UInt8) (w : World) (h : Builds w B b l) (hlen : l.length + 1 ≤ 140737488355328) (hBw : B ≤ w.heap.size) :
    Calls Tryd.prog 43 #[.pointer (some ⟨b, 0, none⟩), .int .u8 (c.toNat : Int)] w fun e w' => (∃ v, e = .returned v) ∧ Builds w' B b (l ++ [c]) ∧ Below B w w' ∧ Spares b w w' := by
  obtain ⟨i0, hi, hz0, hz1, hz2⟩ := info_parts infoB
  have HC := Lib.hid (checkK B b _ w h)
  clear h
  go_enter Tryd.func43, Tryd.ntmps43
  go_wp2_with fail
  refine HC.out.mono ?_
  rintro e w1 ⟨rfl, h1, hb1, hk1⟩
  obtain ⟨hB, v, hbk, hown, hne⟩ := h1
  have c1 : w1.cell? ⟨b, 1, none⟩ = some v := by rw [Lib.cell_of_heap hbk]; rfl
  have hlt : b < w1.heap.size := (Array.getElem?_eq_some_iff.1 hbk).1
  have HOw := Lib.hid (World.ownsRow.alloc hown (.cells #[.int .u8 (c.toNat : Int)] 5))
  have HBw := Lib.hid (hb1.alloc (Nat.le_trans hBw hb1.size) (.cells #[.int .u8 (c.toNat : Int)] 5))
  have HKw := Lib.hid (hk1.alloc hb1.size (.cells #[.int .u8 (c.toNat : Int)] 5))
  have hbk2 : (w1.alloc (.cells #[.int .u8 (c.toNat : Int)] 5)).heap[b]? = some (.cells #[.pointer (some ⟨b, 0, none⟩), v] 60 (0, 0)) := (Below.heap_alloc _ _ _ hlt).trans hbk
  have hnew : (w1.alloc (.cells #[.int .u8 (c.toNat : Int)] 5)).cell? ⟨w1.heap.size, 0, none⟩ = some (.int .u8 (c.toNat : Int)) := by
    rw [World.cell?_alloc_at _ _ _ _ rfl]
    rfl
  have hlt2 : b < (w1.alloc (.cells #[.int .u8 (c.toNat : Int)] 5)).heap.size := by simp; omega
  have hsz2 : B ≤ (w1.alloc (.cells #[.int .u8 (c.toNat : Int)] 5)).heap.size := Nat.le_trans (Nat.le_trans hBw hb1.size) (by simp)
  have hsz3 : w.heap.size ≤ (w1.alloc (.cells #[.int .u8 (c.toNat : Int)] 5)).heap.size := Nat.le_trans hb1.size (by simp)
  clear hown hb1 hk1 hbk hlt
  go_wp2_with (at_builtin; refine wpList_append_own _ rfl _ _ 22 rfl B 5 i0 (.int .u8 0) 1 1 Tryd.underlying22 hi hz0 hz1 hz2 rfl (by decide) v _ _ rfl HOw.out ⟨w1.heap.size, 0, none⟩ 1 1 [.int .u8 (c.toNat : Int)] rfl rfl ?c1 ?c2 ?c3 ?c4 hsz2 ?_)
  case c1 =>
    intro j u hu
    have hj : j = 0 := by
      have := (List.getElem?_eq_some_iff.1 hu).1
      simpa using this
    subst hj
    simp at hu
    subst hu
    exact hnew
  case c2 =>
    intro u hu
    rw [List.mem_singleton.1 hu]
    rfl
  case c3 => rw [Lib.byteCells_length]; unfold maxLen; omega
  case c4 => rw [Lib.byteCells_length]; omega
  intro v' w2 hown' hgrow _
  have hb2 : w2.heap[b]? = some (.cells #[.pointer (some ⟨b, 0, none⟩), v] 60 (0, 0)) := by
    rw [hgrow.block b hlt2 (fun e => hne e.symm)]
    exact hbk2
  have d1 : w2.cell? ⟨b, 1, none⟩ = some v := by rw [Lib.cell_of_heap hb2]; rfl
  have f1 : w2.frozen? ⟨b, 1, none⟩ = false := Lib.frozen_of_heap hb2 1
  have HO := Lib.hid hown'
  have HG := Lib.hid (HBw.out.grown hgrow hsz2 (fun k hk => (HOw.out.lt k hk).1))
  have HK := Lib.hid (HKw.out.grown hsz3 HOw.out hgrow)
  obtain ⟨ao, n', cap, rfl⟩ : ∃ ao n' cap, v' = .slice ao n' cap := by
    rcases hown'.2 with ⟨hv, _⟩ | ⟨g, cap, cur, hv, _⟩
    · exact ⟨_, _, _, hv⟩
    · exact ⟨_, _, _, hv⟩
  clear hown' hgrow HOw HBw HKw hbk2 hnew hlt2 hsz2 hsz3 hne
  go_wp2
  go_ret
  refine ⟨⟨_, rfl⟩, .inr ?_, HG.out.setCell (p := ⟨b, 1, none⟩) hB _, HK.out.set 1 _⟩
  have ho := HO.out
  rw [byte_cells, ← Lib.byteCells_append, Lib.byteCells_length] at ho
  exact Lib.BuilderAt.put (T := 60) (e := 5) hB hb2 (bs' := Lib.byteCells (l ++ [c])) (by simpa [Lib.byteCells_length] using ho) (by decide)

set_option maxRecDepth 100000 in
/-- Len -/
theorem blenK (B b : Nat) (l : List UInt8) (w : World) (h : Builds w B b l) :
    Calls Tryd.prog 65 #[.pointer (some ⟨b, 0, none⟩)] w fun e w' => e = .returned (.int .i64 l.length) ∧ w' = w := by
  obtain ⟨v, hbk, hown⟩ : ∃ v, (∃ p, w.heap[b]? = some (.cells #[p, v] 60 (0, 0))) ∧ w.ownsRow B 5 1 v (Lib.byteCells l).length (Lib.byteCells l) := by
    rcases h with ⟨_, v, h1, h2, _⟩ | ⟨_, v, h1, h2, _⟩
    · exact ⟨v, ⟨_, h1⟩, h2⟩
    · exact ⟨v, ⟨_, h1⟩, h2⟩
  obtain ⟨p, hbk⟩ := hbk
  obtain ⟨A, cap, rfl⟩ : ∃ A cap, v = .slice A l.length cap := by
    rw [Lib.byteCells_length] at hown
    rcases hown.2 with ⟨rfl, hz⟩ | ⟨g, cap, cur, rfl, _⟩
    · rw [hz]; exact ⟨none, 0, rfl⟩
    · exact ⟨_, cap, rfl⟩
  have c1 : w.cell? ⟨b, 1, none⟩ = some (.slice A l.length cap) := by rw [Lib.cell_of_heap hbk]; rfl
  clear hown hbk h
  go_enter Tryd.func65, Tryd.ntmps65
  go_wp2
  go_ret
  exact ⟨rfl, rfl⟩
end Go.Proofs.YtjbppociogoopaaDoor

namespace Go.Proofs.YtjbppociogoopaaDoor
open Go.RowKit Go.Deep Go.Proofs.YtjbppociogoopaaDoor.Num

theorem wrK_len (f : Fr) (i : Int) (hs : f.data.size ≤ 400) : (wrK f i).length ≤ 408 := by
  have hq : ∀ n, (encQ n).length ≤ 8 := fun n => by rw [encQ_len]; rcases qsz_cases n with h | h | h | h | h <;> omega
  unfold wrK
  have h1 := hq f.stream
  have h2 := hq f.offset
  have h3 := hq f.code
  have h4 := hq f.limit
  have h5 := hq f.final
  have h6 := hq (f.data.size : Int)
  have h7 : f.data.data.toList.length = f.data.size := by simp
  repeat' split
  all_goals first | omega | (simp only [List.length_append, List.length_nil]; omega)
theorem wrKs_len (f : Fr) (hs : f.data.size ≤ 400) (l : List Int) : (l.flatMap (wrK f)).length ≤ 408 * l.length := by
  induction l with
  | nil => simp
  | cons i l ih =>
    rw [List.flatMap_cons, List.length_append, List.length_cons]
    have := wrK_len f i hs
    omega
/-- The frame's block, a builder, and all that was there. -/
def HeldE (w : World) (f : Fr) (b : Nat) (W : World) (l : List UInt8) : Prop := BoxF W w.heap.size f ∧ Below w.heap.size w W ∧ w.heap.size < b ∧ b < W.heap.size ∧ Builds W b b l
theorem HeldE.start {w W : World} {f : Fr} (h : HeldI w f W) : HeldE w f W.heap.size (W.alloc (.cells #[.pointer none, .slice none 0 0] 60)) [] :=
  ⟨h.1.alloc _, h.2.alloc h.2.size _, h.1.lt, by simp, Builds.fresh W⟩
theorem HeldE.next {w W W1 : World} {f : Fr} {b : Nat} {l : List UInt8} (h : HeldE w f b W l) (hb : Below W.heap.size W W1) : HeldE w f b W1 l :=
  ⟨h.1.below hb h.1.lt, h.2.1.trans (hb.mono h.2.1.size), h.2.2.1, Nat.lt_of_lt_of_le h.2.2.2.1 hb.size, h.2.2.2.2.later hb⟩
theorem HeldE.write {w W W1 : World} {f : Fr} {b : Nat} {l l' : List UInt8} (h : HeldE w f b W l) (hb : Below b W W1) (hl : Builds W1 b b l') : HeldE w f b W1 l' :=
  ⟨h.1.below hb h.2.2.1, h.2.1.trans (hb.mono (Nat.le_of_lt h.2.2.1)), h.2.2.1, Nat.lt_of_lt_of_le h.2.2.2.1 hb.size, hl⟩

set_option maxRecDepth 100000 in
/-- impl.EncodeFrame, of no frame -/
theorem iencf_no (f : Fr) (w : World) (hok : ¬ okF f) :
    Calls Tryd.prog 12 #[frV f] w fun e w' => e = .returned (.string ⟨(encF f).toArray⟩) ∧ Below w.heap.size w w' := by
  have HI := Lib.hid (iisf f)
  rw [decide_eq_false hok] at HI
  rw [encF_no f hok]
  have H0 := Lib.hid (HeldI.start w f)
  obtain ⟨q0, q1, q2, q3, q4, q5, q6, q7, q8⟩ := H0.out.1.cells
  clear hok
  go_enter Tryd.func12, Tryd.ntmps12
  go_wp2_with fail
  refine (HI.out _).mono ?_
  rintro e w1 ⟨rfl, hb1⟩
  have H1 := Lib.hid (H0.out.next hb1)
  clear hb1
  go_wp2
  go_ret
  exact ⟨rfl, H1.out.2⟩

set_option maxRecDepth 100000 in
set_option maxHeartbeats 1000000 in
/-- impl.EncodeFrame, of a frame -/
theorem iencf_yes (f : Fr) (w : World) (hok : okF f) (hF : Forms w) :
    Calls Tryd.prog 12 #[frV f] w fun e w' => e = .returned (.string ⟨(encF f).toArray⟩) ∧ Below w.heap.size w w' := by
  have HI := Lib.hid (iisf f)
  rw [decide_eq_true hok] at HI
  have HE := Lib.hid (encF_fields f hok)
  have HT := Lib.hid (fun W => itype f W hok)
  obtain ⟨c, hc⟩ : ∃ c, UInt8.ofNat (typF f).toNat = c := ⟨_, rfl⟩
  have hty : typF f = (c.toNat : Int) := by
    have h := typF_in f hok.1
    rw [← hc, UInt8.toNat_ofNat']
    omega
  rw [hc] at HE
  rw [hty] at HT
  have hds : f.data.size ≤ 400 := hok.2.2.2.2.2.2.2.1
  have HWL := Lib.hid (wrKs_len f hds)
  have HW1 := Lib.hid (fun i => wrK_len f i hds)
  have HWR : Hid (∀ i, 0 ≤ i ∧ i ≤ 7 → ∀ W, Forms W → Calls Tryd.prog 47 #[frV f, .int .i64 i] W fun e w' => e = .returned (.string ⟨(wrK f i).toArray⟩) ∧ Below W.heap.size W w') := Lib.hid fun i hi W h => iwr f i W hi h hds
  have HF := Lib.hid hF
  have HK := Lib.hid (iflds f.kind)
  have hlen := fieldsK_len f.kind
  have HIN := Lib.hid (fieldsK_in f.kind)
  have H0 := Lib.hid (HeldI.start w f)
  obtain ⟨q0, q1, q2, q3, q4, q5, q6, q7, q8⟩ := H0.out.1.cells
  clear hok hF hc hty
  go_enter Tryd.func12, Tryd.ntmps12
  go_wp2_with fail
  refine (HI.out _).mono ?_
  rintro e w1 ⟨rfl, hb1⟩
  have H1 := Lib.hid (HeldE.start (H0.out.next hb1))
  clear hb1 q0 q1 q2 q3 q4 q5 q6 q7 q8 HI H0
  obtain ⟨q0, q1, q2, q3, q4, q5, q6, q7, q8⟩ := H1.out.1.cells
  go_upto_region 4 with fail
  generalize w1.heap.size = b at *
  generalize w1.alloc (.cells #[.pointer none, .slice none 0 0] 60) = w2 at *
  go_wp2_with fail
  refine (HT.out _).mono ?_
  rintro e w3 ⟨rfl, hb3⟩
  have H3 := Lib.hid (H1.out.next hb3)
  clear hb3 q0 q1 q2 q3 q4 q5 q6 q7 q8 HT H1
  go_wp2_with fail
  refine (bbyteK b b [] c w3 H3.out.2.2.2.2 (by decide) (Nat.le_of_lt H3.out.2.2.2.1)).mono ?_
  rintro e w4 ⟨⟨v4, rfl⟩, hl4, hb4, _⟩
  have H4 := Lib.hid (H3.out.write hb4 hl4)
  clear hb4 hl4 H3
  obtain ⟨q0, q1, q2, q3, q4, q5, q6, q7, q8⟩ := H4.out.1.cells
  go_wp2_with fail
  refine (HK.out _).mono ?_
  rintro e w5 ⟨⟨A, cap, rfl, hfl⟩, hb5⟩
  have H5 := Lib.hid (H4.out.next hb5)
  have HL5 := Lib.hid hfl
  have hbK : b < w4.heap.size := H4.out.2.2.2.1
  clear hb5 hfl q0 q1 q2 q3 q4 q5 q6 q7 q8 H4 HK
  generalize w4.heap.size = K at *
  generalize fieldsK f.kind = L at *
  go_wp2
  go_loopw [16] (fun x wr => ∃ j : Nat, j ≤ L.length ∧ x = .int .i64 j ∧ HeldE w f b wr (c :: (L.take j).flatMap (wrK f)) ∧ Flds wr K A L) (fun x _ => L.length - (intOf x).toNat)
  case atStart => exact ⟨0, Nat.zero_le _, rfl, H5.out, HL5.out⟩
  case round =>
    obtain ⟨j, hj, rfl, hh, hfl⟩ := hrel
    have H := Lib.hid hh
    have HL := Lib.hid hfl
    clear hh hfl H5 HL5
    by_cases hlt : j < L.length
    · obtain ⟨g, rfl, _, _, hc⟩ := HL.out.nums j hlt
      obtain ⟨q0, q1, q2, q3, q4, q5, q6, q7, q8⟩ := H.out.1.cells
      have hx := HIN.out L[j] (List.getElem_mem hlt)
      have HTK : Hid ((L.take (j + 1)).flatMap (wrK f) = (L.take j).flatMap (wrK f) ++ wrK f L[j]) := Lib.hid (by
        rw [List.take_succ_eq_append_getElem hlt, List.flatMap_append, List.flatMap_cons, List.flatMap_nil, List.append_nil])
      have hl1 := HWL.out (L.take j)
      have hl2 : (L.take j).length ≤ 4 := Nat.le_trans (List.length_take_le' _ _) hlen
      generalize L[j] = y at *
      have HC := Lib.hid (HWR.out y hx wr (HF.out.keep (Nat.le_refl _) H.out.2.1))
      have hl3 := HW1.out y
      clear hx
      generalize (L.take j).flatMap (wrK f) = acc at *
      generalize wrK f y = part at *
      go_wp2_with fail
      refine HC.out.mono ?_
      rintro e w6 ⟨rfl, hb6⟩
      have H6 := Lib.hid (H.out.next hb6)
      have HL6 := Lib.hid (HL.out.below hb6)
      clear hb6 q0 q1 q2 q3 q4 q5 q6 q7 q8 hc
      go_wp2_with fail
      refine (bwriteK b b (c :: acc) part w6 H6.out.2.2.2.2 (by simp only [List.length_cons]; omega) (Nat.le_of_lt H6.out.2.2.2.1)).mono ?_
      rintro e w7 ⟨⟨v7, rfl⟩, hl7, hb7, hs7⟩
      have H7 := Lib.hid (H6.out.write hb7 hl7)
      have HL7 := Lib.hid (HL6.out.kept hb7.size fun k hK hk hn => hs7 k hk (by omega) hn)
      clear hb7 hl7 hs7
      go_wp2
      go_roundw
      case rel => exact ⟨j + 1, by omega, by go_num, by rw [HTK.out]; exact H7.out, HL7.out⟩
      case measure => simp [intOf]; omega
    · obtain rfl : j = L.length := by omega
      go_wp2_with fail
      refine (bstring b b _ wr H.out.2.2.2.2 (Nat.le_of_lt H.out.2.2.2.1)).mono ?_
      rintro e w6 ⟨rfl, hb6⟩
      have HB := Lib.hid (H.out.2.1.trans (hb6.mono (Nat.le_of_lt H.out.2.2.1)))
      clear hb6
      go_wp2
      go_ret
      exact ⟨by rw [HE.out]; rfl, HB.out⟩
/-- impl.EncodeFrame -/
theorem iencf (f : Fr) (w : World) (hF : Forms w) :
    Calls Tryd.prog 12 #[frV f] w fun e w' => e = .returned (.string ⟨(encF f).toArray⟩) ∧ Below w.heap.size w w' := by
  by_cases hok : okF f
  · exact iencf_yes f w hok hF
  · exact iencf_no f w hok
/-- impl.FrameSize -/
theorem ifsize (f : Fr) (w : World) (hF : Forms w) :
    Calls Tryd.prog 17 #[frV f] w fun e w' => e = .returned (.int .i64 (encF f).length) ∧ Below w.heap.size w w' := by
  have HE := Lib.hid (iencf f _ (hF.alloc (.cells (frC f) 25)))
  have H0 := Lib.hid (HeldI.start w f)
  obtain ⟨q0, q1, q2, q3, q4, q5, q6, q7, q8⟩ := H0.out.1.cells
  clear hF
  go_enter Tryd.func17, Tryd.ntmps17
  go_wp2_with fail
  refine HE.out.mono ?_
  rintro e w1 ⟨rfl, hb1⟩
  have H1 := Lib.hid (H0.out.next hb1)
  clear hb1
  go_wp2
  go_ret
  exact ⟨rfl, H1.out.2⟩
end Go.Proofs.YtjbppociogoopaaDoor

namespace Go.Proofs.YtjbppociogoopaaDoor
open Go.RowKit Go.Deep Go.Proofs.YtjbppociogoopaaDoor.Num

theorem and1 : ∀ c : Fin 256, bits .and .u8 (c.val : Int) 1 = ((c.val % 2 : Nat) : Int) := by decide +kernel
theorem and2 : ∀ c : Fin 256, bits .and .u8 (c.val : Int) 2 = ((c.val / 2 % 2 * 2 : Nat) : Int) := by decide +kernel
theorem and4 : ∀ c : Fin 256, bits .and .u8 (c.val : Int) 4 = ((c.val / 4 % 2 * 4 : Nat) : Int) := by decide +kernel

theorem grown_of {w w1 : World} {g : Nat} (h : Below w.heap.size w w1) : w.grownBy w1 (some g) := ⟨h.os, h.tape, h.output, h.size, fun i hi _ => h.block i hi⟩
theorem grown_set {w w1 : World} {g : Nat} (h : w.grownBy w1 (some g)) (j : Nat) (v : Value) : w.grownBy (w1.setCell ⟨g, j, none⟩ v) (some g) :=
  ⟨h.os, h.tape, h.output, by simpa [World.setCell] using h.size, fun i hi hne => by
    have hg : i ≠ g := by rintro rfl; exact hne rfl
    exact (Below.heap_setCell _ ⟨g, j, none⟩ v i hg).trans (h.block i hi hne)⟩
theorem grown_self (w : World) (g : Nat) : w.grownBy w (some g) := ⟨rfl, rfl, rfl, Nat.le_refl _, fun _ _ _ => rfl⟩

theorem rdK2_none {c : Nat} {L : List UInt8} {F : Fr} {p : Nat} (h2 : c / 2 % 2 = 1) (hd : decL (L.drop p) = none) : rdK c L 2 F p = none := by
  unfold rdK
  rw [if_neg (by decide), if_neg (by decide), if_pos rfl, if_pos h2, hd]
theorem rdK2_some {c : Nat} {L : List UInt8} {F : Fr} {p x k : Nat} (h2 : c / 2 % 2 = 1) (hd : decL (L.drop p) = some (x, k)) (hx : x ≤ L.length - (p + k)) : rdK c L 2 F p = some ({ F with data := ⟨((L.drop (p + k)).take x).toArray⟩ }, p + k + x) := by
  unfold rdK
  rw [if_neg (by decide), if_neg (by decide), if_pos rfl, if_pos h2, hd]
  simp only
  rw [if_pos hx]
theorem rdK2_long {c : Nat} {L : List UInt8} {F : Fr} {p x k : Nat} (h2 : c / 2 % 2 = 1) (hd : decL (L.drop p) = some (x, k)) (hx : ¬ x ≤ L.length - (p + k)) : rdK c L 2 F p = none := by
  unfold rdK
  rw [if_neg (by decide), if_neg (by decide), if_pos rfl, if_pos h2, hd]
  simp only
  rw [if_neg hx]
theorem rdK2_open {c : Nat} {L : List UInt8} {F : Fr} {p : Nat} (h2 : ¬ c / 2 % 2 = 1) : rdK c L 2 F p = some ({ F with data := ⟨(L.drop p).toArray⟩ }, L.length) := by
  unfold rdK
  rw [if_neg (by decide), if_neg (by decide), if_pos rfl, if_neg h2]
theorem rdKn_none {c : Nat} {L : List UInt8} {F : Fr} {p : Nat} {i : Int} (hi : isN i) (h1 : i = 1 → c / 4 % 2 = 1) (hd : decL (L.drop p) = none) : rdK c L i F p = none := by
  unfold isN at hi
  unfold rdK
  rw [if_neg (by omega), if_neg (by omega), if_neg (by omega), if_neg (fun h => by have := h1 h.1; omega), hd]
theorem rdKn_some {c : Nat} {L : List UInt8} {F : Fr} {p x k : Nat} {i : Int} (hi : isN i) (h1 : i = 1 → c / 4 % 2 = 1) (hd : decL (L.drop p) = some (x, k)) : rdK c L i F p = some (putK F i x, p + k) := by
  unfold isN at hi
  unfold rdK
  rw [if_neg (by omega), if_neg (by omega), if_neg (by omega), if_neg (fun h => by have := h1 h.1; omega), hd]
theorem rdK1_off {c : Nat} {L : List UInt8} {F : Fr} {p : Nat} (h : c / 4 % 2 = 0) : rdK c L 1 F p = some (F, p) := by
  unfold rdK
  rw [if_neg (by decide), if_neg (by decide), if_neg (by decide), if_pos ⟨rfl, h⟩]

/-- What reading a field gives: the frame lies in block g. -/
def RdW (r : Option (Fr × Nat)) (g : Nat) (w : World) (e : Ending) (w' : World) : Prop :=
  (match r with
    | none => ∃ n : Int, e = .returned (.tuple #[.int .i64 n, .bool false])
    | some (F, p) => e = .returned (.tuple #[.int .i64 (p : Nat), .bool true]) ∧ BoxF w' g F) ∧ w.grownBy w' (some g)

theorem ext_drop (s : ByteArray) (p : Nat) : s.extract p s.size = ⟨(s.data.toList.drop p).toArray⟩ := by
  apply ByteArray.ext
  apply Array.toList_inj.mp
  simp only [ByteArray.data_extract, Array.toList_extract, List.extract_eq_take_drop]
  exact List.take_of_length_le (by rw [List.length_drop]; simp)
theorem ext_mid (s : ByteArray) (i n : Nat) : s.extract i (i + n) = ⟨((s.data.toList.drop i).take n).toArray⟩ := by
  apply ByteArray.ext
  apply Array.toList_inj.mp
  simp

set_option maxRecDepth 100000 in
set_option maxHeartbeats 1000000 in
/-- impl.readData, of a type with a length -/
theorem irdata_len (g : Nat) (F : Fr) (c : Nat) (hc : c < 256) (s : ByteArray) (p : Nat) (w : World) (hF : Forms w) (hs : s.size ≤ 1048576) (hp : p ≤ s.size) (hb : BoxF w g F) (h2 : c / 2 % 2 = 1) :
    Calls Tryd.prog 73 #[.pointer (some ⟨g, 0, none⟩), .int .u8 (c : Int), .string s, .int .i64 p] w (RdW (rdK c s.data.toList 2 F p) g w) := by
  have h3 : s.data.toList.length = s.size := by simp
  have hmx : s.size ≤ maxLen := by unfold maxLen; omega
  have ha := and2 ⟨c, hc⟩
  dsimp only at ha
  rw [h2] at ha
  have H2 := Lib.hid h2
  have HB := Lib.hid hb
  have wr1 : wrap64 ((s.size : Int) - (p : Int)) = (s.size : Int) - (p : Int) := by unfold wrap64; omega
  have ha2 : bits .and .u8 (c : Int) 2 = 2 := by simpa using ha
  clear ha h2 hc hb
  cases hd : decL (s.data.toList.drop p) with
  | none =>
    have HQ := Lib.hid (idecq_no s (p : Int) w hF hmx (Or.inr (by rw [Int.toNat_natCast]; exact hd)))
    have HR := Lib.hid (rdK2_none (F := F) H2.out hd)
    clear hd hF
    go_enter Tryd.func73, Tryd.ntmps73
    go_wp2_with fail
    refine HQ.out.mono ?_
    rintro e w1 ⟨rfl, hb1⟩
    have HG := Lib.hid (grown_of (g := g) hb1)
    clear hb1
    go_wp2
    go_ret2
    exact ⟨by rw [HR.out]; exact ⟨_, rfl⟩, HG.out⟩
  | some xk =>
    obtain ⟨x, k⟩ := xk
    have HQ := Lib.hid (idecq_yes s p x k w hF hmx hd)
    have hdl := (decL_some hd).2.1
    rw [List.length_drop, h3] at hdl
    have hk8 := (decL_some hd).1
    obtain ⟨q, hq⟩ : ∃ q, p + k = q := ⟨_, rfl⟩
    rw [hq] at HQ
    have hqs : q ≤ s.size := by omega
    have WR2 := Lib.hid (show wrap64 ((s.size : Int) - (q : Int)) = (s.size : Int) - (q : Int) by clear wr1; unfold wrap64; omega)
    by_cases hx : x ≤ s.size - q
    · have HR := Lib.hid (rdK2_some (F := F) H2.out hd (by rw [h3, hq]; exact hx))
      rw [hq, ← ext_mid] at HR
      have hxd : decide ((s.size : Int) - (q : Int) < (x : Int)) = false := decide_eq_false (by omega)
      have s0 : (0 : Int) ≤ (q : Int) := by omega
      obtain ⟨r, hr⟩ : ∃ r, q + x = r := ⟨_, rfl⟩
      rw [hr] at HR
      have s1 : (q : Int) ≤ (r : Int) := by omega
      have s2 : (r : Int) ≤ (s.size : Int) := by omega
      have WR3 := Lib.hid (show wrap64 ((q : Int) + (x : Int)) = (r : Int) by clear wr1; unfold wrap64; omega)
      clear hr hd hdl hk8 hq hx hF
      go_enter Tryd.func73, Tryd.ntmps73
      go_wp2_with fail
      refine HQ.out.mono ?_
      rintro e w1 ⟨rfl, hb1⟩
      have HG := Lib.hid (grown_of (g := g) hb1)
      have HB1 := Lib.hid (HB.out.below hb1 HB.out.lt)
      have fz := HB1.out.free
      obtain ⟨q0, q1, q2, q3, q4, q5, q6, q7, q8⟩ := HB1.out.cells
      clear hb1 wr1
      have wr2 := WR2.out
      go_upto_region 7 with fail
      clear wr2
      have wr3 := WR3.out
      go_wp2
      go_ret2
      exact ⟨by rw [HR.out]; exact ⟨by first | rfl | (rw [← WR3.out]; rfl), HB1.out.set3 _⟩, grown_set HG.out 3 _⟩
    · have HR := Lib.hid (rdK2_long (F := F) H2.out hd (by rw [h3, hq]; exact hx))
      have hxd : decide ((s.size : Int) - (q : Int) < (x : Int)) = true := decide_eq_true (by omega)
      clear hd hdl hk8 hq hx hF
      go_enter Tryd.func73, Tryd.ntmps73
      go_wp2_with fail
      refine HQ.out.mono ?_
      rintro e w1 ⟨rfl, hb1⟩
      have HG := Lib.hid (grown_of (g := g) hb1)
      clear hb1 wr1
      have wr2 := WR2.out
      go_wp2
      go_ret2
      exact ⟨by rw [HR.out]; exact ⟨_, rfl⟩, HG.out⟩

set_option maxRecDepth 100000 in
set_option maxHeartbeats 1000000 in
/-- .. of a type without: all that is left -/
theorem irdata_open (g : Nat) (F : Fr) (c : Nat) (hc : c < 256) (s : ByteArray) (p : Nat) (w : World) (hs : s.size ≤ 1048576) (hp : p ≤ s.size) (hb : BoxF w g F) (h2 : ¬ c / 2 % 2 = 1) :
    Calls Tryd.prog 73 #[.pointer (some ⟨g, 0, none⟩), .int .u8 (c : Int), .string s, .int .i64 p] w (RdW (rdK c s.data.toList 2 F p) g w) := by
  have h3 : s.data.toList.length = s.size := by simp
  have ha := and2 ⟨c, hc⟩
  dsimp only at ha
  rw [show c / 2 % 2 = 0 by omega] at ha
  have ha2 : bits .and .u8 (c : Int) 2 = 0 := by simpa using ha
  have HB := Lib.hid hb
  have fz := HB.out.free
  obtain ⟨q0, q1, q2, q3, q4, q5, q6, q7, q8⟩ := HB.out.cells
  have HR := Lib.hid (rdK2_open (F := F) (L := s.data.toList) (p := p) h2)
  rw [h3, ← ext_drop] at HR
  obtain ⟨m, hm⟩ : ∃ m : Nat, s.size - p = m := ⟨_, rfl⟩
  have wr1 : wrap64 ((s.size : Int) - (p : Int)) = (m : Int) := by unfold wrap64; omega
  have WR2 := Lib.hid (show wrap64 ((p : Int) + (m : Int)) = (s.size : Int) by clear wr1; unfold wrap64; omega)
  have s0 : (0 : Int) ≤ (p : Int) := by omega
  have s1 : (p : Int) ≤ (s.size : Int) := by omega
  have s2 : (s.size : Int) ≤ (s.size : Int) := by omega
  clear ha h2 hc hb hm
  go_enter Tryd.func73, Tryd.ntmps73
  go_upto_region 7 with fail
  clear wr1
  have wr2 := WR2.out
  go_wp2
  go_ret2
  have he : Ending.returned (.tuple #[.int .i64 ((p : Int) + ((s.size : Int) - (p : Int))), .bool true]) = .returned (.tuple #[.int .i64 (s.size : Int), .bool true]) := by
    rw [show (p : Int) + ((s.size : Int) - (p : Int)) = (s.size : Int) by omega]
  exact ⟨by rw [HR.out]; exact ⟨he, HB.out.set3 _⟩, grown_set (grown_self w g) 3 _⟩
theorem irdata (g : Nat) (F : Fr) (c : Nat) (hc : c < 256) (s : ByteArray) (p : Nat) (w : World) (hF : Forms w) (hs : s.size ≤ 1048576) (hp : p ≤ s.size) (hb : BoxF w g F) :
    Calls Tryd.prog 73 #[.pointer (some ⟨g, 0, none⟩), .int .u8 (c : Int), .string s, .int .i64 p] w (RdW (rdK c s.data.toList 2 F p) g w) := by
  by_cases h2 : c / 2 % 2 = 1
  · exact irdata_len g F c hc s p w hF hs hp hb h2
  · exact irdata_open g F c hc s p w hs hp hb h2

set_option maxRecDepth 100000 in
set_option maxHeartbeats 1000000 in
/-- impl.readField, of a number -/
theorem irf_num (g : Nat) (F : Fr) (c : Nat) (hc : c < 256) (s : ByteArray) (p : Nat) (w : World) (hF : Forms w) (hs : s.size ≤ 1048576) (hb : BoxF w g F) (i : Int) (hi : isN i) (h1 : i = 1 → c / 4 % 2 = 1) :
    Calls Tryd.prog 50 #[.pointer (some ⟨g, 0, none⟩), .int .i64 i, .int .u8 (c : Int), .string s, .int .i64 p] w (RdW (rdK c s.data.toList i F p) g w) := by
  have hmx : s.size ≤ maxLen := by unfold maxLen; omega
  have ha4 : i = 1 → bits .and .u8 (c : Int) 4 = 4 := fun h => by
    have ha := and4 ⟨c, hc⟩
    dsimp only at ha
    rw [h1 h] at ha
    simpa using ha
  have HB := Lib.hid hb
  have HN := Lib.hid (inumber g i hi)
  clear hc hb
  cases hd : decL (s.data.toList.drop p) with
  | none =>
    have HQ := Lib.hid (idecq_no s (p : Int) w hF hmx (Or.inr (by rw [Int.toNat_natCast]; exact hd)))
    have HR := Lib.hid (rdKn_none (F := F) hi h1 hd)
    clear hd hF h1
    rcases hi with rfl | rfl | rfl | rfl | rfl
    case inr.inl =>
      have ha := ha4 rfl
      clear ha4
      go_enter Tryd.func50, Tryd.ntmps50
      go_wp2_with fail
      refine HQ.out.mono ?_
      rintro e w1 ⟨rfl, hb1⟩
      have HG := Lib.hid (grown_of (g := g) hb1)
      have HB1 := Lib.hid (HB.out.below hb1 HB.out.lt)
      have fz := HB1.out.free
      obtain ⟨q0, q1, q2, q3, q4, q5, q6, q7, q8⟩ := HB1.out.cells
      clear hb1
      go_wp2_with fail
      refine (HN.out _).mono ?_
      rintro e w2 ⟨rfl, rfl⟩
      go_wp2
      go_ret2
      exact ⟨by rw [HR.out]; exact ⟨_, rfl⟩, grown_set HG.out _ _⟩
    all_goals
      clear ha4
      go_enter Tryd.func50, Tryd.ntmps50
      go_wp2_with fail
      refine HQ.out.mono ?_
      rintro e w1 ⟨rfl, hb1⟩
      have HG := Lib.hid (grown_of (g := g) hb1)
      have HB1 := Lib.hid (HB.out.below hb1 HB.out.lt)
      have fz := HB1.out.free
      obtain ⟨q0, q1, q2, q3, q4, q5, q6, q7, q8⟩ := HB1.out.cells
      clear hb1
      go_wp2_with fail
      refine (HN.out _).mono ?_
      rintro e w2 ⟨rfl, rfl⟩
      go_wp2
      go_ret2
      exact ⟨by rw [HR.out]; exact ⟨_, rfl⟩, grown_set HG.out _ _⟩
  | some xk =>
    obtain ⟨x, k⟩ := xk
    have HQ := Lib.hid (idecq_yes s p x k w hF hmx hd)
    have HR := Lib.hid (rdKn_some (F := F) hi h1 hd)
    obtain ⟨q, hq⟩ : ∃ q, p + k = q := ⟨_, rfl⟩
    rw [hq] at HQ HR
    clear hd hF h1 hq
    rcases hi with rfl | rfl | rfl | rfl | rfl
    case inr.inl =>
      have ha := ha4 rfl
      clear ha4
      go_enter Tryd.func50, Tryd.ntmps50
      go_wp2_with fail
      refine HQ.out.mono ?_
      rintro e w1 ⟨rfl, hb1⟩
      have HG := Lib.hid (grown_of (g := g) hb1)
      have HB1 := Lib.hid (HB.out.below hb1 HB.out.lt)
      have fz := HB1.out.free
      obtain ⟨q0, q1, q2, q3, q4, q5, q6, q7, q8⟩ := HB1.out.cells
      clear hb1
      go_wp2_with fail
      refine (HN.out _).mono ?_
      rintro e w2 ⟨rfl, rfl⟩
      go_wp2
      go_ret2
      exact ⟨by rw [HR.out]; exact ⟨rfl, HB1.out.set2 (x : Int)⟩, grown_set HG.out _ _⟩
    all_goals
      clear ha4
      go_enter Tryd.func50, Tryd.ntmps50
      go_wp2_with fail
      refine HQ.out.mono ?_
      rintro e w1 ⟨rfl, hb1⟩
      have HG := Lib.hid (grown_of (g := g) hb1)
      have HB1 := Lib.hid (HB.out.below hb1 HB.out.lt)
      have fz := HB1.out.free
      obtain ⟨q0, q1, q2, q3, q4, q5, q6, q7, q8⟩ := HB1.out.cells
      clear hb1
      go_wp2_with fail
      refine (HN.out _).mono ?_
      rintro e w2 ⟨rfl, rfl⟩
      go_wp2
      go_ret2
      first
        | exact ⟨by rw [HR.out]; exact ⟨rfl, HB1.out.set1 (x : Int)⟩, grown_set HG.out _ _⟩
        | exact ⟨by rw [HR.out]; exact ⟨rfl, HB1.out.set5 (x : Int)⟩, grown_set HG.out _ _⟩
        | exact ⟨by rw [HR.out]; exact ⟨rfl, HB1.out.set6 (x : Int)⟩, grown_set HG.out _ _⟩
        | exact ⟨by rw [HR.out]; exact ⟨rfl, HB1.out.set7 (x : Int)⟩, grown_set HG.out _ _⟩

set_option maxRecDepth 100000 in
set_option maxHeartbeats 1000000 in
/-- impl.readField -/
theorem irf (g : Nat) (F : Fr) (c : Nat) (hc : c < 256) (s : ByteArray) (p : Nat) (w : World) (hF : Forms w) (hs : s.size ≤ 1048576) (hp : p ≤ s.size) (hb : BoxF w g F) (i : Int) (hi : 0 ≤ i ∧ i ≤ 7) :
    Calls Tryd.prog 50 #[.pointer (some ⟨g, 0, none⟩), .int .i64 i, .int .u8 (c : Int), .string s, .int .i64 p] w (RdW (rdK c s.data.toList i F p) g w) := by
  have HB := Lib.hid hb
  have fz := HB.out.free
  obtain ⟨q0, q1, q2, q3, q4, q5, q6, q7, q8⟩ := HB.out.cells
  have ha1 := and1 ⟨c, hc⟩
  dsimp only at ha1
  obtain ⟨y, hy⟩ : ∃ y : Int, ((c % 2 : Nat) : Int) = y := ⟨_, rfl⟩
  rw [hy] at ha1
  have hyd : (y != 0) = decide (c % 2 = 1) := by
    by_cases h : c % 2 = 1
    · rw [decide_eq_true h]; simp; omega
    · rw [decide_eq_false h]; simp; omega
  clear hy
  rcases (show i = 0 ∨ i = 1 ∨ i = 2 ∨ i = 3 ∨ i = 4 ∨ i = 5 ∨ i = 6 ∨ i = 7 by omega) with rfl | rfl | rfl | rfl | rfl | rfl | rfl | rfl
  · exact irf_num g F c hc s p w hF hs hb 0 (by unfold isN; omega) (by omega)
  · by_cases h4 : c / 4 % 2 = 1
    · exact irf_num g F c hc s p w hF hs hb 1 (by unfold isN; omega) (fun _ => h4)
    · have h40 : c / 4 % 2 = 0 := by omega
      have HR := Lib.hid (rdK1_off (L := s.data.toList) (F := F) (p := p) h40)
      have ha := and4 ⟨c, hc⟩
      dsimp only at ha
      rw [h40] at ha
      have ha4 : bits .and .u8 (c : Int) 4 = 0 := by simpa using ha
      clear ha h4 h40 hb hF ha1 hyd
      go_enter Tryd.func50, Tryd.ntmps50
      go_wp2
      go_ret2
      exact ⟨by rw [HR.out]; exact ⟨rfl, HB.out⟩, grown_self w g⟩
  · have HD := Lib.hid (irdata g F c hc s p w hF hs hp hb)
    clear hb hF ha1 hyd hc
    go_enter Tryd.func50, Tryd.ntmps50
    go_wp2_with fail
    refine HD.out.mono ?_
    rintro e w1 ⟨hr, hg⟩
    have HG := Lib.hid hg
    cases hq : rdK c s.data.toList 2 F p with
    | none =>
      rw [hq] at hr
      obtain ⟨n, rfl⟩ := hr
      have HR := Lib.hid hq
      clear hq hg
      go_wp2
      go_ret2
      exact ⟨by rw [HR.out]; exact ⟨_, rfl⟩, HG.out⟩
    | some Fp =>
      obtain ⟨F', p'⟩ := Fp
      rw [hq] at hr
      obtain ⟨rfl, hbox⟩ := hr
      have HBX := Lib.hid hbox
      have HR := Lib.hid hq
      clear hq hg hbox
      go_wp2
      go_ret2
      exact ⟨by rw [HR.out]; exact ⟨rfl, HBX.out⟩, HG.out⟩
  · clear hb hF hc
    go_enter Tryd.func50, Tryd.ntmps50
    go_wp2
    go_ret2
    exact ⟨⟨rfl, HB.out.set4 _⟩, grown_set (grown_self w g) 4 _⟩
  · exact irf_num g F c hc s p w hF hs hb 4 (by unfold isN; omega) (by omega)
  · exact irf_num g F c hc s p w hF hs hb 5 (by unfold isN; omega) (by omega)
  · exact irf_num g F c hc s p w hF hs hb 6 (by unfold isN; omega) (by omega)
  · clear hb hF hc
    go_enter Tryd.func50, Tryd.ntmps50
    go_wp2
    go_ret2
    exact ⟨⟨rfl, HB.out.set8 _⟩, grown_set (grown_self w g) 8 _⟩
end Go.Proofs.YtjbppociogoopaaDoor

namespace Go.Proofs.YtjbppociogoopaaDoor
open Go.RowKit Go.Deep Go.Proofs.YtjbppociogoopaaDoor.Num

theorem rdK_place {c : Nat} {L : List UInt8} {i : Int} {F F' : Fr} {p p' : Nat} (h : rdK c L i F p = some (F', p')) (hp : p ≤ L.length) : p ≤ p' ∧ p' ≤ L.length := by
  unfold rdK at h
  split at h
  · simp only [Option.some.injEq, Prod.mk.injEq] at h; omega
  split at h
  · simp only [Option.some.injEq, Prod.mk.injEq] at h; omega
  split at h
  · split at h
    · split at h
      · cases h
      · rename_i x k hd
        have hk := (decL_some hd).2.1
        rw [List.length_drop] at hk
        split at h
        · simp only [Option.some.injEq, Prod.mk.injEq] at h
          have h1 := (decL_some hd).1
          omega
        · cases h
    · simp only [Option.some.injEq, Prod.mk.injEq] at h; omega
  split at h
  · simp only [Option.some.injEq, Prod.mk.injEq] at h; omega
  · split at h
    · cases h
    · rename_i x k hd
      have hk := (decL_some hd).2.1
      rw [List.length_drop] at hk
      have h1 := (decL_some hd).1
      simp only [Option.some.injEq, Prod.mk.injEq] at h
      omega
/-- The result's block, the frame's block, and all that was there, once a field has been read. -/
theorem HeldS.read {w W W1 : World} {g1 g2 : Nat} {f f' : Fr} (h : HeldS w g1 g2 f W) (hg : W.grownBy W1 (some g2)) (hb : BoxF W1 g2 f') : HeldS w g1 g2 f' W1 := by
  refine ⟨?_, hb, h.2.2.1.grown hg h.2.2.1.size (fun k hk => ?_), h.2.2.2⟩
  · have hne := h.ne
    exact (hg.block g1 h.1.lt (fun e => hne (Option.some.inj e).symm)).trans h.1
  · have := Option.some.inj hk
    have := h.2.2.2
    omega
theorem Flds.read {w w' : World} {K g : Nat} {A : Option Addr} {l : List Int} (h : Flds w K A l) (hg : w.grownBy w' (some g)) (hgK : g < K) : Flds w' K A l := h.kept hg.size fun k hK hk _ => hg.block k hk (fun e => by have := Option.some.inj e; omega)

set_option maxRecDepth 100000 in
set_option maxHeartbeats 1000000 in
/-- impl.DecodeFrame, where there is no place -/
theorem idecf_no (s : ByteArray) (a : Int) (w : World) (h : a < 0 ∨ s.size ≤ a) :
    Calls Tryd.prog 13 #[.string s, .int .i64 a] w fun e w' => e = .returned (.tuple #[frV fr0, .int .i64 0, .bool false]) ∧ Below w.heap.size w w' := by
  have H0 : BoxF (w.alloc (.cells (frC fr0) 25)) w.heap.size fr0 := BoxF.new w fr0
  have HB0 : Below w.heap.size w (w.alloc (.cells (frC fr0) 25)) := (Below.refl _ _).alloc (Nat.le_refl _) _
  have HH0 := Lib.hid H0
  have HHB := Lib.hid HB0
  clear H0 HB0
  by_cases h0 : a < 0
  · have hd : decide (a < 0) = true := decide_eq_true h0
    clear h h0
    go_enter Tryd.func13, Tryd.ntmps13
    go_wp2
    refine bodyPost_ret (results_frame rfl _ _ w.heap.size _ _ _ _ rfl HH0.out Tryd.underlying25 rfl (by kernel_rfl)) rfl ?_
    exact ⟨rfl, HHB.out⟩
  · have hd : decide (a < 0) = false := decide_eq_false h0
    have hd2 : decide ((s.size : Int) ≤ a) = true := decide_eq_true (by omega)
    clear h h0
    go_enter Tryd.func13, Tryd.ntmps13
    go_wp2
    refine bodyPost_ret (results_frame rfl _ _ w.heap.size _ _ _ _ rfl HH0.out Tryd.underlying25 rfl (by kernel_rfl)) rfl ?_
    exact ⟨rfl, HHB.out⟩

end Go.Proofs.YtjbppociogoopaaDoor

namespace Go.Proofs.YtjbppociogoopaaDoor
open Go.RowKit Go.Deep Go.Proofs.YtjbppociogoopaaDoor.Num

set_option maxRecDepth 100000 in
set_option maxHeartbeats 600000 in
/-- impl.DecodeFrame, at a byte -/
theorem idecf_at (s : ByteArray) (a : Nat) (w : World) (hs : s.size ≤ 1048576) (ha : a < s.size) (hF : Forms w) :
    Calls Tryd.prog 13 #[.string s, .int .i64 a] w (FrP a (decF (s.data.toList.drop a)) w) := by
  have h3 : s.data.toList.length = s.size := by simp
  have hd : decide ((a : Int) < 0) = false := decide_eq_false (by omega)
  have hd2 : decide ((s.size : Int) ≤ (a : Int)) = false := decide_eq_false (by omega)
  have hcl : s[a].toNat < 256 := s[a].toNat_lt
  have HE := Lib.hid (decF_fields s.data.toList a s[a] (s.data.toList.drop (a + 1)) (drop_at s a ha))
  have HKD := Lib.hid (fun W => ikind s[a].toNat hcl W)
  have HCL := Lib.hid hcl
  clear hcl
  have HL := Lib.hid (fieldsK_len (kinT s[a].toNat))
  have HIN := Lib.hid (fieldsK_in (kinT s[a].toNat))
  have HK := Lib.hid (iflds (kinT s[a].toNat))
  have HRF : Hid (∀ (g : Nat) (F : Fr) (p : Nat) (W : World), Forms W → p ≤ s.size → BoxF W g F → ∀ i, 0 ≤ i ∧ i ≤ 7 → Calls Tryd.prog 50 #[.pointer (some ⟨g, 0, none⟩), .int .i64 i, .int .u8 (s[a].toNat : Int), .string s, .int .i64 p] W (RdW (rdK s[a].toNat s.data.toList i F p) g W)) := Lib.hid fun g F p W h1 h2 h3 i hi => irf g F s[a].toNat HCL.out s p W h1 hs h2 h3 i hi
  have HF := Lib.hid hF
  obtain ⟨a1, ha1⟩ : ∃ a1, a + 1 = a1 := ⟨_, rfl⟩
  have wr1 : wrap64 ((a : Int) + 1) = (a1 : Int) := by unfold wrap64; omega
  have h1s : a1 ≤ s.size := by omega
  have HA := Lib.hid ha1
  rw [ha1] at HE
  have H0 := Lib.hid (HeldS.start w { fr0 with kind := kinT s[a].toNat })
  clear hF ha1
  go_enter Tryd.func13, Tryd.ntmps13
  go_wp2_with fail
  refine (HKD.out _).mono ?_
  rintro e w0 ⟨rfl, rfl⟩
  generalize s[a].toNat = c at *
  generalize kinT c = k at *
  go_upto_region 6 with fail
  clear wr1
  go_wp2_with fail
  refine (HK.out _).mono ?_
  rintro e w2 ⟨⟨A, cap, rfl, hfl⟩, hb2⟩
  have H2 := Lib.hid (H0.out.next hb2)
  obtain ⟨K, hgK, hfl2⟩ : ∃ K, w.heap.size + 1 < K ∧ Flds w2 K A (fieldsK k) := ⟨_, H0.out.2.1.lt, hfl⟩
  have HFL := Lib.hid hfl2
  clear hfl hfl2 hb2 H0 HK HKD
  generalize fieldsK k = L at *
  have hlen := HL.out
  go_wp2
  go_loopw [35, 9] (fun x n wr => ∃ (j p : Nat) (F : Fr), j ≤ L.length ∧ x = .int .i64 j ∧ n = .int .i64 p ∧ a1 ≤ p ∧ p ≤ s.size ∧ HeldS w w.heap.size (w.heap.size + 1) F wr ∧ Flds wr K A L ∧ rdAll c s.data.toList L { fr0 with kind := k } a1 = rdAll c s.data.toList (L.drop j) F p) (fun x _ _ => L.length - (intOf x).toNat)
  case atStart => exact ⟨0, a1, _, Nat.zero_le _, rfl, by rw [← HA.out]; go_num, Nat.le_refl _, h1s, H2.out, HFL.out, by rw [List.drop_zero]⟩
  case round =>
    obtain ⟨j, p, F, hj, rfl, rfl, hpa, hps, hh, hfl, hrd⟩ := hrel
    have H := Lib.hid hh
    have HL1 := Lib.hid hfl
    have HR := Lib.hid hrd
    clear hh hfl hrd H2 HFL
    by_cases hlt : j < L.length
    · obtain ⟨g, rfl, _, _, hc⟩ := HL1.out.nums j hlt
      have hx := HIN.out L[j] (List.getElem_mem hlt)
      have HD : Hid (rdAll c s.data.toList (L.drop j) F p = match rdK c s.data.toList L[j] F p with | none => none | some (g', p') => rdAll c s.data.toList (L.drop (j + 1)) g' p') := Lib.hid (by rw [List.drop_eq_getElem_cons hlt]; rfl)
      generalize L[j] = y at *
      have HC := Lib.hid (HRF.out (w.heap.size + 1) F p wr (HF.out.keep (Nat.le_refl _) H.out.2.2.1) hps H.out.2.1 y hx)
      clear hx
      cases hq : rdK c s.data.toList y F p with
      | none =>
        have HN : Hid (decF (s.data.toList.drop a) = none) := Lib.hid (by rw [HE.out, HR.out, HD.out, hq])
        rw [hq] at HC
        clear hq HD HE
        go_wp2_with fail
        refine HC.out.mono ?_
        rintro e w3 ⟨⟨n, rfl⟩, hg3⟩
        have hne := H.out.ne
        have HZ : Hid (BoxF w3 w.heap.size fr0) := Lib.hid ((hg3.block _ H.out.1.lt (fun e => hne (Option.some.inj e).symm)).trans H.out.1)
        have HB3 : Hid (Below w.heap.size w w3) := Lib.hid (H.out.2.2.1.grown hg3 H.out.2.2.1.size (fun i hi => by have := Option.some.inj hi; omega))
        obtain ⟨r0, r1, r2, r3, r4, r5, r6, r7, r8⟩ := HZ.out.cells
        have rz := HZ.out.free
        clear hg3 hc hne
        go_wp2
        (try simp only [Exit.inBlock, Exit.then])
        refine bodyPost_ret (results_frame rfl _ _ w.heap.size _ _ _ _ rfl (HZ.out.all fr0) Tryd.underlying25 rfl (by kernel_rfl)) rfl ?_
        exact ⟨by rw [HN.out]; rfl, setAll_below HB3.out (Nat.le_refl _) fr0⟩
      | some Fp =>
        obtain ⟨F', p'⟩ := Fp
        have hpp := rdK_place hq (by rw [h3]; exact hps)
        rw [h3] at hpp
        have HR2 : Hid (rdAll c s.data.toList L { fr0 with kind := k } a1 = rdAll c s.data.toList (L.drop (j + 1)) F' p') := Lib.hid (by rw [HR.out, HD.out, hq])
        rw [hq] at HC
        clear hq HD
        go_wp2_with fail
        refine HC.out.mono ?_
        rintro e w3 ⟨⟨rfl, hb3⟩, hg3⟩
        have H3 := Lib.hid (H.out.read hg3 hb3)
        have HL3 := Lib.hid (HL1.out.read hg3 hgK)
        clear hg3 hb3 hc
        go_wp2
        go_roundw
        case rel => exact ⟨j + 1, p', F', by omega, by go_num, rfl, by omega, hpp.2, H3.out, HL3.out, HR2.out⟩
        case measure => simp [intOf]; omega
    · obtain rfl : j = L.length := by omega
      have HR2 : Hid (rdAll c s.data.toList L { fr0 with kind := k } a1 = some (F, p)) := Lib.hid (by rw [HR.out, List.drop_length]; rfl)
      have HI := Lib.hid (iisf F)
      obtain ⟨q0, q1, q2, q3, q4, q5, q6, q7, q8⟩ := H.out.2.1.cells
      by_cases hok : okF F
      · have HN : Hid (decF (s.data.toList.drop a) = some (F, p - a)) := Lib.hid (by rw [HE.out, HR2.out]; simp only; rw [if_pos hok])
        rw [decide_eq_true hok] at HI
        clear hok HE HR HR2
        go_wp2_with fail
        refine (HI.out _).mono ?_
        rintro e w3 ⟨rfl, hb3⟩
        have H3 := Lib.hid (H.out.next hb3)
        clear hb3 q0 q1 q2 q3 q4 q5 q6 q7 q8
        obtain ⟨q0, q1, q2, q3, q4, q5, q6, q7, q8⟩ := H3.out.2.1.cells
        obtain ⟨r0, r1, r2, r3, r4, r5, r6, r7, r8⟩ := H3.out.1.cells
        have rz := H3.out.1.free
        go_wp2
        refine bodyPost_ret (results_frame rfl _ _ w.heap.size _ _ _ _ rfl (H3.out.1.all F) Tryd.underlying25 rfl (by kernel_rfl)) rfl ?_
        refine ⟨?_, setAll_below H3.out.2.2.1 (Nat.le_refl _) F⟩
        rw [HN.out]
        show _ = Ending.returned (.tuple #[frV F, .int .i64 ((a + (p - a) : Nat) : Int), .bool true])
        rw [show a + (p - a) = p by have h := HA.out; omega]
        rfl
      · have HN : Hid (decF (s.data.toList.drop a) = none) := Lib.hid (by rw [HE.out, HR2.out]; simp only; rw [if_neg hok])
        rw [decide_eq_false hok] at HI
        clear hok HE HR HR2
        go_wp2_with fail
        refine (HI.out _).mono ?_
        rintro e w3 ⟨rfl, hb3⟩
        have H3 := Lib.hid (H.out.next hb3)
        clear hb3 q0 q1 q2 q3 q4 q5 q6 q7 q8
        obtain ⟨r0, r1, r2, r3, r4, r5, r6, r7, r8⟩ := H3.out.1.cells
        have rz := H3.out.1.free
        go_wp2
        refine bodyPost_ret (results_frame rfl _ _ w.heap.size _ _ _ _ rfl (H3.out.1.all fr0) Tryd.underlying25 rfl (by kernel_rfl)) rfl ?_
        exact ⟨by rw [HN.out]; rfl, setAll_below H3.out.2.2.1 (Nat.le_refl _) fr0⟩
end Go.Proofs.YtjbppociogoopaaDoor

namespace Go.Proofs.YtjbppociogoopaaDoor
open Go.RowKit Go.Deep Go.Proofs.YtjbppociogoopaaDoor.Num

theorem Builds.alloc {w : World} {B b : Nat} {l : List UInt8} (h : Builds w B b l) (o : Obj) : Builds (w.alloc o) B b l := h.later ((Below.refl _ _).alloc (Nat.le_refl _) o)
theorem encP_long (l : List Fr) (j : Nat) (h : 400 < ((l.take j).flatMap encF).length) : encP l = [] := by
  unfold encP
  rw [if_neg]
  rintro ⟨_, h2⟩
  have e : l.flatMap encF = (l.take j).flatMap encF ++ (l.drop j).flatMap encF := by rw [← List.flatMap_append, List.take_append_drop]
  rw [e, List.length_append] at h2
  omega

set_option maxRecDepth 100000 in
set_option maxHeartbeats 1000000 in
/-- impl.EncodePayload -/
theorem iencp (l : List Fr) (A : Option Addr) (cap B : Nat) (w : World) (hB : B ≤ w.heap.size) (hr : Frs w B A l) (hn : l.length ≤ 1048576) (hF : Forms w) :
    Calls Tryd.prog 26 #[.slice A l.length cap] w fun e w' => e = .returned (.string ⟨(encP l).toArray⟩) ∧ Below w.heap.size w w' := by
  have HR := Lib.hid hr
  have HF := Lib.hid hF
  clear hr hF
  go_enter Tryd.func26, Tryd.ntmps26
  go_wp2
  go_loopw [9] (fun x wr => ∃ j : Nat, j ≤ l.length ∧ x = .int .i64 j ∧ (∀ f ∈ l.take j, okF f) ∧ ((l.take j).flatMap encF).length ≤ 400 ∧ Builds wr w.heap.size w.heap.size ((l.take j).flatMap encF) ∧ w.heap.size < wr.heap.size ∧ Below w.heap.size w wr) (fun x _ => l.length - (intOf x).toNat)
  case atStart => exact ⟨0, Nat.zero_le _, rfl, by simp, by simp, Builds.fresh w, by simp, (Below.refl _ _).alloc (Nat.le_refl _) _⟩
  case round =>
    obtain ⟨j, hj, rfl, hok, hle, hbl, hsz, hb⟩ := hrel
    have HO := Lib.hid hok
    have HL := Lib.hid hbl
    have HB := Lib.hid hb
    clear hok hbl hb
    by_cases hlt : j < l.length
    · obtain ⟨b, off, rfl, hbB, c0, c1, c2, c3, c4, c5, c6, c7, c8⟩ := (HR.out.below hB HB.out).cells j hlt
      have HT := Lib.hid (flatF_take l j hlt)
      have hel := encF_len l[j]
      have HC := Lib.hid (iencf l[j] _ ((HF.out.keep (Nat.le_refl _) HB.out).alloc (.cells (frC l[j]) 25)))
      have HL0 := Lib.hid (HL.out.alloc (.cells (frC l[j]) 25))
      have HB0 := Lib.hid (HB.out.alloc HB.out.size (.cells (frC l[j]) 25))
      have hsz0 : w.heap.size < (wr.alloc (.cells (frC l[j]) 25)).heap.size := by simp; omega
      by_cases hf : okF l[j]
      · have HO2 : Hid (∀ f ∈ l.take (j + 1), okF f) := Lib.hid (by
          rw [List.take_succ_eq_append_getElem hlt]
          intro f hm
          rcases List.mem_append.1 hm with hm | hm
          · exact HO.out f hm
          · rw [List.mem_singleton.1 hm]; exact hf)
        have hemp := text_full _ (encF_ne _ hf)
        have hemp2 : (encF l[j]).isEmpty = false := by cases hh : encF l[j] with | nil => exact absurd hh (encF_ne _ hf) | cons x y => rfl
        have HLG := Lib.hid (encP_long l (j + 1))
        rw [HT.out, List.length_append] at HLG
        clear hf
        generalize hx : l[j] = x at *
        clear hx
        generalize (l.take j).flatMap encF = acc at *
        generalize encF x = bs at *
        go_wp2_with fail
        refine HC.out.mono ?_
        rintro e w1 ⟨rfl, hb1⟩
        have HB1 := Lib.hid (HB0.out.trans (hb1.mono HB0.out.size))
        have HL1 := Lib.hid (HL0.out.later hb1)
        have hsz1 : w.heap.size < w1.heap.size := Nat.lt_of_lt_of_le hsz0 hb1.size
        clear hb1 c0 c1 c2 c3 c4 c5 c6 c7 c8 hsz0 HC
        go_wp2_with fail
        refine (blenK w.heap.size w.heap.size acc w1 HL1.out).mono ?_
        rintro e w2 ⟨rfl, rfl⟩
        by_cases hx : 400 < acc.length + bs.length
        · have HE := Lib.hid (HLG.out hx)
          have hd : decide (400 < (acc.length : Int) + (bs.length : Int)) = true := decide_eq_true (by omega)
          clear hx
          go_wp2
          go_ret
          exact ⟨by rw [HE.out]; rfl, HB1.out⟩
        · have hd : decide (400 < (acc.length : Int) + (bs.length : Int)) = false := decide_eq_false (by omega)
          go_wp2_with fail
          refine (bwriteK w.heap.size w.heap.size acc bs w2 HL1.out (by omega) (Nat.le_of_lt hsz1)).mono ?_
          rintro e w3 ⟨⟨v, rfl⟩, hl3, hb3, _⟩
          go_wp2
          go_roundw
          case rel => exact ⟨j + 1, hlt, by go_num, HO2.out, by rw [HT.out, List.length_append]; omega, by rw [HT.out]; exact hl3, Nat.lt_of_lt_of_le hsz1 hb3.size, HB1.out.trans hb3⟩
          case measure => simp [intOf]; omega
      · have HE := Lib.hid (encP_bad l l[j] (List.getElem_mem hlt) hf)
        have hemp := text_empty _ (encF_no _ hf)
        have hemp2 : (encF l[j]).isEmpty = true := by rw [encF_no _ hf]; rfl
        clear hf HT hel
        generalize hx : l[j] = x at *
        clear hx
        generalize encF x = bs at *
        go_wp2_with fail
        refine HC.out.mono ?_
        rintro e w1 ⟨rfl, hb1⟩
        have HB1 := Lib.hid (HB0.out.trans (hb1.mono HB0.out.size))
        clear hb1
        go_wp2
        go_ret
        exact ⟨by rw [HE.out]; rfl, HB1.out⟩
    · obtain rfl : j = l.length := by omega
      have HE : Hid (encP l = l.flatMap encF) := Lib.hid (by
        have h := HO.out
        rw [List.take_length] at h hle
        unfold encP
        rw [if_pos ⟨h, hle⟩])
      go_wp2_with fail
      refine (bstring w.heap.size w.heap.size _ wr HL.out (Nat.le_of_lt hsz)).mono ?_
      rintro e w1 ⟨rfl, hb1⟩
      go_wp2
      go_ret
      exact ⟨by rw [HE.out]; rfl, HB.out.trans hb1⟩
end Go.Proofs.YtjbppociogoopaaDoor

namespace Go.Proofs.YtjbppociogoopaaDoor
open Go.RowKit Go.Deep Go.Proofs.YtjbppociogoopaaDoor.Num

/-- impl.DecodeFrame -/
theorem idecf (s : ByteArray) (a : Nat) (w : World) (hs : s.size ≤ 1048576) (hF : Forms w) :
    Calls Tryd.prog 13 #[.string s, .int .i64 a] w (FrP a (decF (s.data.toList.drop a)) w) := by
  by_cases ha : a < s.size
  · exact idecf_at s a w hs ha hF
  · refine (idecf_no s a w (Or.inr (by omega))).mono ?_
    rintro e w' ⟨h1, h2⟩
    rw [List.drop_eq_nil_of_le (by simp; omega)]
    exact ⟨h1, h2⟩

set_option maxRecDepth 100000 in
set_option maxHeartbeats 1000000 in
/-- impl.DecodePayload -/
theorem idecp (s : ByteArray) (w : World) (hs : s.size ≤ 1048576) (hF : Forms w) :
    Calls Tryd.prog 27 #[.string s] w (PayP s.data.toList w) := by
  have h3 : s.data.toList.length = s.size := by simp
  have HF := Lib.hid hF
  clear hF
  go_enter Tryd.func27, Tryd.ntmps27
  go_wp2
  go_loopw [4, 5] (fun v i wr => ∃ (p g : Nat) (acc : List Fr), i = .int .i64 p ∧ RdF s.data.toList p g acc ∧ OwnF wr w.heap.size v acc ∧ Below w.heap.size w wr) (fun _ i _ => s.size - (intOf i).toNat)
  case atStart => exact ⟨0, _, [], rfl, RdF.start _, OwnF.empty, Below.refl _ _⟩
  case round =>
    obtain ⟨p, g, acc, rfl, hr, ho, hb⟩ := hrel
    have HR := Lib.hid hr
    have HO := Lib.hid ho
    have HB := Lib.hid hb
    have hpl := hr.1
    have hal := hr.2.2.1
    rw [h3] at hpl
    clear hr ho hb
    by_cases hlt : p < s.size
    · have hlt' : p < s.data.toList.length := by rw [h3]; exact hlt
      by_cases h0 : s[p] = 0
      · have he : ((s[p].toNat : Int) == 0) = true := by rw [h0]; rfl
        obtain ⟨g', hr2⟩ := HR.out.zero hlt' (by rw [byte_at s p hlt hlt']; exact h0)
        have HR2 := Lib.hid hr2
        clear h0 hr2
        go_wp2
        go_roundw
        case rel => exact ⟨p + 1, g', acc, by go_num, HR2.out, HO.out, HB.out⟩
        case measure => simp [intOf]; omega
      · have hne : s.data.toList[p] ≠ 0 := by rw [byte_at s p hlt hlt']; exact h0
        have he : ((s[p].toNat : Int) == 0) = false := by
          have : s[p].toNat ≠ 0 := fun h => h0 (UInt8.toNat_inj.1 (by rw [h]; rfl))
          simpa using this
        have HC := Lib.hid (idecf s p wr hs (HF.out.keep (Nat.le_refl _) HB.out))
        clear h0
        cases hd : decF (s.data.toList.drop p) with
        | none =>
          have HN := Lib.hid (HR.out.bad hlt' hne hd)
          rw [hd] at HC
          clear hd hne
          go_wp2_with fail
          refine HC.out.mono ?_
          rintro e w1 ⟨hres, hb1⟩
          obtain rfl : e = .returned (.tuple #[frV fr0, .int .i64 0, .bool false]) := hres
          have HB1 := Lib.hid ((HB.out.trans (hb1.mono HB.out.size)).alloc (Nat.le_trans HB.out.size hb1.size) (.cells (frC fr0) 25))
          clear hb1
          go_wp2
          go_ret2
          exact ⟨⟨_, [], false, rfl, OwnF.empty, .inl ⟨HN.out, rfl, rfl⟩⟩, HB1.out⟩
        | some fk =>
          obtain ⟨f, k⟩ := fk
          obtain ⟨g', hr2⟩ := HR.out.step hlt' hne hd
          have HR2 := Lib.hid hr2
          have hk := decF_len hd
          rw [List.length_drop, h3] at hk
          rw [hd] at HC
          clear hd hne hr2
          go_wp2_with fail
          refine HC.out.mono ?_
          rintro e w1 ⟨hres, hb1⟩
          obtain rfl : e = .returned (.tuple #[frV f, .int .i64 (p + k : Nat), .bool true]) := hres
          have HW1 := Lib.hid (HB.out.trans (hb1.mono HB.out.size))
          have HB1 := Lib.hid ((HW1.out.alloc HW1.out.size (.cells (frC f) 25)).alloc (by have := HW1.out.size; simp; omega) (.cells (frC f) 25))
          have HO1 := Lib.hid (((HO.out.later hb1).alloc (.cells (frC f) 25)).alloc (.cells (frC f) 25))
          have HX : Hid (Frs ((w1.alloc (.cells (frC f) 25)).alloc (.cells (frC f) 25)) (w1.heap.size + 1 + 1) (some ⟨w1.heap.size + 1, 0, none⟩) [f]) := Lib.hid (by
            have := frs_one (w1.alloc (.cells (frC f) 25)) f 25
            simpa using this)
          obtain ⟨q, hq⟩ : ∃ q, p + k = q := ⟨_, rfl⟩
          rw [hq] at HR2 ⊢
          have hpq : p < q := by omega
          have hqs : q ≤ s.size := by omega
          clear hb1 hk hq
          go_wp2_with (at_builtin; refine wpList_append_fr _ rfl _ _ rfl w.heap.size _ acc rfl HO1.out (w1.heap.size + 1) 0 1 1 (w1.heap.size + 1 + 1) [f] rfl rfl HX.out ?c1 ?c2 ?_)
          case c1 => omega
          case c2 => exact HB1.out.size
          intro v' w2 ho2 hb2
          have HO2 := Lib.hid ho2
          have HB2 := Lib.hid (HB1.out.trans hb2)
          clear ho2 hb2
          go_wp2
          go_roundw
          case rel => exact ⟨q, g', _, rfl, HR2.out, HO2.out, HB2.out⟩
          case measure => simp [intOf]; omega
    · have HD := Lib.hid (HR.out.done (by rw [h3]; exact hlt))
      obtain rfl : p = s.size := by omega
      have HDD : Hid ((decide (0 < (s.size : Int)) && decide ((s.size : Int) ≤ 400)) = decide (1 ≤ s.data.toList.length ∧ s.data.toList.length ≤ 400)) := Lib.hid (by
        rw [h3, ← Bool.decide_and]
        exact decide_eq_decide.2 (by omega))
      by_cases h0 : 0 < s.size
      · have hd0 : decide (0 < (s.size : Int)) = true := decide_eq_true (by omega)
        rw [hd0, Bool.true_and] at HDD
        have hd1 : decide (0 < s.size) = true := decide_eq_true h0
        go_wp2
        go_ret2
        exact ⟨⟨_, acc, _, rfl, HO.out, .inr ⟨HD.out, by omega, HDD.out⟩⟩, HB.out⟩
      · have hd0 : decide (0 < (s.size : Int)) = false := decide_eq_false (by omega)
        rw [hd0, Bool.false_and] at HDD
        have hd1 : decide (0 < s.size) = false := decide_eq_false h0
        go_wp2
        go_ret2
        exact ⟨⟨_, acc, _, rfl, HO.out, .inr ⟨HD.out, by omega, HDD.out⟩⟩, HB.out⟩
end Go.Proofs.YtjbppociogoopaaDoor
