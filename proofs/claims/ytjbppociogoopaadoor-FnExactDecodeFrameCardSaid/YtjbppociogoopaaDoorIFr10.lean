/-
  What impl.readData and impl.readField return.
-/
import Derived.Test.YtjbppociogoopaaDoorIFr7
import Derived.Test.YtjbppociogoopaaDoorIDecQ
import Derived.Test.YtjbppociogoopaaDoorFrV
import Derived.Deep.DeepCutAuto
namespace Go.Proofs.YtjbppociogoopaaDoor
open Go.RowKit Go.Deep Go.Proofs.YtjbppociogoopaaDoor.Num

theorem and1 : ∀ c : Fin 256, bits .and .u8 (c.val : Int) 1 = ((c.val % 2 : Nat) : Int) := by decide +kernel
theorem and2 : ∀ c : Fin 256, bits .and .u8 (c.val : Int) 2 = ((c.val / 2 % 2 * 2 : Nat) : Int) := by decide +kernel
theorem and4 : ∀ c : Fin 256, bits .and .u8 (c.val : Int) 4 = ((c.val / 4 % 2 * 4 : Nat) : Int) := by decide +kernel

theorem grown_of {w w1 : World} {g : Nat} (h : Below w.heap.size w w1) : w.grownBy w1 (some g) := ⟨h.os, h.tape, h.output, h.size, fun i hi _ => h.block i hi⟩
theorem grown_set {w w1 : World} {g : Nat} (h : w.grownBy w1 (some g)) (j : Nat) (v : Value) : w.grownBy (w1.setCell ⟨g, j, none⟩ v) (some g) :=
  ⟨h.os, h.tape, h.output, by simpa [World.setCell] using h.size, fun i hi hne => by
    have hg : i ≠ g := by rintro rfl; exact hne rfl
    exact (Below.heap_setCell _ ⟨g, j, none⟩ v i hg).trans (h.block i hi hne)⟩
theorem grown_self (w : World) (g : Nat) : w.grownBy w (some g) := ⟨rfl, rfl, rfl, Nat.le_refl _, fun _ _ _ => rfl⟩

theorem rdK2_none {c : Nat} {L : List UInt8} {F : Fr} {p : Nat} (h2 : c / 2 % 2 = 1) (hd : decL (L.drop p) = none) : rdK c L 2 F p = none := by
  unfold rdK
  rw [if_neg (by decide), if_neg (by decide), if_pos rfl, if_pos h2, hd]
theorem rdK2_some {c : Nat} {L : List UInt8} {F : Fr} {p x k : Nat} (h2 : c / 2 % 2 = 1) (hd : decL (L.drop p) = some (x, k)) (hx : x ≤ L.length - (p + k)) : rdK c L 2 F p = some ({ F with data := ⟨((L.drop (p + k)).take x).toArray⟩ }, p + k + x) := by
  unfold rdK
  rw [if_neg (by decide), if_neg (by decide), if_pos rfl, if_pos h2, hd]
  simp only
  rw [if_pos hx]
theorem rdK2_long {c : Nat} {L : List UInt8} {F : Fr} {p x k : Nat} (h2 : c / 2 % 2 = 1) (hd : decL (L.drop p) = some (x, k)) (hx : ¬ x ≤ L.length - (p + k)) : rdK c L 2 F p = none := by
  unfold rdK
  rw [if_neg (by decide), if_neg (by decide), if_pos rfl, if_pos h2, hd]
  simp only
  rw [if_neg hx]
theorem rdK2_open {c : Nat} {L : List UInt8} {F : Fr} {p : Nat} (h2 : ¬ c / 2 % 2 = 1) : rdK c L 2 F p = some ({ F with data := ⟨(L.drop p).toArray⟩ }, L.length) := by
  unfold rdK
  rw [if_neg (by decide), if_neg (by decide), if_pos rfl, if_neg h2]
theorem rdKn_none {c : Nat} {L : List UInt8} {F : Fr} {p : Nat} {i : Int} (hi : isN i) (h1 : i = 1 → c / 4 % 2 = 1) (hd : decL (L.drop p) = none) : rdK c L i F p = none := by
  unfold isN at hi
  unfold rdK
  rw [if_neg (by omega), if_neg (by omega), if_neg (by omega), if_neg (fun h => by have := h1 h.1; omega), hd]
theorem rdKn_some {c : Nat} {L : List UInt8} {F : Fr} {p x k : Nat} {i : Int} (hi : isN i) (h1 : i = 1 → c / 4 % 2 = 1) (hd : decL (L.drop p) = some (x, k)) : rdK c L i F p = some (putK F i x, p + k) := by
  unfold isN at hi
  unfold rdK
  rw [if_neg (by omega), if_neg (by omega), if_neg (by omega), if_neg (fun h => by have := h1 h.1; omega), hd]
theorem rdK1_off {c : Nat} {L : List UInt8} {F : Fr} {p : Nat} (h : c / 4 % 2 = 0) : rdK c L 1 F p = some (F, p) := by
  unfold rdK
  rw [if_neg (by decide), if_neg (by decide), if_neg (by decide), if_pos ⟨rfl, h⟩]

/-- What reading a field gives: the frame lies in block g. -/
def RdW (r : Option (Fr × Nat)) (g : Nat) (w : World) (e : Ending) (w' : World) : Prop :=
  (match r with
    | none => ∃ n : Int, e = .returned (.tuple #[.int .i64 n, .bool false])
    | some (F, p) => e = .returned (.tuple #[.int .i64 (p : Nat), .bool true]) ∧ BoxF w' g F) ∧ w.grownBy w' (some g)

theorem ext_drop (s : ByteArray) (p : Nat) : s.extract p s.size = ⟨(s.data.toList.drop p).toArray⟩ := by
  apply ByteArray.ext
  apply Array.toList_inj.mp
  simp only [ByteArray.data_extract, Array.toList_extract, List.extract_eq_take_drop]
  exact List.take_of_length_le (by rw [List.length_drop]; simp)
theorem ext_mid (s : ByteArray) (i n : Nat) : s.extract i (i + n) = ⟨((s.data.toList.drop i).take n).toArray⟩ := by
  apply ByteArray.ext
  apply Array.toList_inj.mp
  simp

set_option maxRecDepth 100000 in
set_option maxHeartbeats 1000000 in
/-- impl.readData, of a type with a length -/
theorem irdata_len (g : Nat) (F : Fr) (c : Nat) (hc : c < 256) (s : ByteArray) (p : Nat) (w : World) (hF : Forms w) (hs : s.size ≤ 1048576) (hp : p ≤ s.size) (hb : BoxF w g F) (h2 : c / 2 % 2 = 1) :
    Calls Tryd.prog 73 #[.pointer (some ⟨g, 0, none⟩), .int .u8 (c : Int), .string s, .int .i64 p] w (RdW (rdK c s.data.toList 2 F p) g w) := by
  have h3 : s.data.toList.length = s.size := by simp
  have hmx : s.size ≤ maxLen := by unfold maxLen; omega
  have ha := and2 ⟨c, hc⟩
  dsimp only at ha
  rw [h2] at ha
  have H2 := Lib.hid h2
  have HB := Lib.hid hb
  have wr1 : wrap64 ((s.size : Int) - (p : Int)) = (s.size : Int) - (p : Int) := by unfold wrap64; omega
  have ha2 : bits .and .u8 (c : Int) 2 = 2 := by simpa using ha
  clear ha h2 hc hb
  cases hd : decL (s.data.toList.drop p) with
  | none =>
    have HQ := Lib.hid (idecq_no s (p : Int) w hF hmx (Or.inr (by rw [Int.toNat_natCast]; exact hd)))
    have HR := Lib.hid (rdK2_none (F := F) H2.out hd)
    clear hd hF
    go_enter Tryd.func73, Tryd.ntmps73
    go_wp2_with fail
    refine HQ.out.mono ?_
    rintro e w1 ⟨rfl, hb1⟩
    have HG := Lib.hid (grown_of (g := g) hb1)
    clear hb1
    go_wp2
    go_ret2
    exact ⟨by rw [HR.out]; exact ⟨_, rfl⟩, HG.out⟩
  | some xk =>
    obtain ⟨x, k⟩ := xk
    have HQ := Lib.hid (idecq_yes s p x k w hF hmx hd)
    have hdl := (decL_some hd).2.1
    rw [List.length_drop, h3] at hdl
    have hk8 := (decL_some hd).1
    obtain ⟨q, hq⟩ : ∃ q, p + k = q := ⟨_, rfl⟩
    rw [hq] at HQ
    have hqs : q ≤ s.size := by omega
    have WR2 := Lib.hid (show wrap64 ((s.size : Int) - (q : Int)) = (s.size : Int) - (q : Int) by clear wr1; unfold wrap64; omega)
    by_cases hx : x ≤ s.size - q
    · have HR := Lib.hid (rdK2_some (F := F) H2.out hd (by rw [h3, hq]; exact hx))
      rw [hq, ← ext_mid] at HR
      have hxd : decide ((s.size : Int) - (q : Int) < (x : Int)) = false := decide_eq_false (by omega)
      have s0 : (0 : Int) ≤ (q : Int) := by omega
      obtain ⟨r, hr⟩ : ∃ r, q + x = r := ⟨_, rfl⟩
      rw [hr] at HR
      have s1 : (q : Int) ≤ (r : Int) := by omega
      have s2 : (r : Int) ≤ (s.size : Int) := by omega
      have WR3 := Lib.hid (show wrap64 ((q : Int) + (x : Int)) = (r : Int) by clear wr1; unfold wrap64; omega)
      clear hr hd hdl hk8 hq hx hF
      go_enter Tryd.func73, Tryd.ntmps73
      go_wp2_with fail
      refine HQ.out.mono ?_
      rintro e w1 ⟨rfl, hb1⟩
      have HG := Lib.hid (grown_of (g := g) hb1)
      have HB1 := Lib.hid (HB.out.below hb1 HB.out.lt)
      have fz := HB1.out.free
      obtain ⟨q0, q1, q2, q3, q4, q5, q6, q7, q8⟩ := HB1.out.cells
      clear hb1 wr1
      have wr2 := WR2.out
      go_upto_region 7 with fail
      clear wr2
      have wr3 := WR3.out
      go_wp2
      go_ret2
      exact ⟨by rw [HR.out]; exact ⟨by first | rfl | (rw [← WR3.out]; rfl), HB1.out.set3 _⟩, grown_set HG.out 3 _⟩
    · have HR := Lib.hid (rdK2_long (F := F) H2.out hd (by rw [h3, hq]; exact hx))
      have hxd : decide ((s.size : Int) - (q : Int) < (x : Int)) = true := decide_eq_true (by omega)
      clear hd hdl hk8 hq hx hF
      go_enter Tryd.func73, Tryd.ntmps73
      go_wp2_with fail
      refine HQ.out.mono ?_
      rintro e w1 ⟨rfl, hb1⟩
      have HG := Lib.hid (grown_of (g := g) hb1)
      clear hb1 wr1
      have wr2 := WR2.out
      go_wp2
      go_ret2
      exact ⟨by rw [HR.out]; exact ⟨_, rfl⟩, HG.out⟩

set_option maxRecDepth 100000 in
set_option maxHeartbeats 1000000 in
/-- .. of a type without: all that is left -/
theorem irdata_open (g : Nat) (F : Fr) (c : Nat) (hc : c < 256) (s : ByteArray) (p : Nat) (w : World) (hs : s.size ≤ 1048576) (hp : p ≤ s.size) (hb : BoxF w g F) (h2 : ¬ c / 2 % 2 = 1) :
    Calls Tryd.prog 73 #[.pointer (some ⟨g, 0, none⟩), .int .u8 (c : Int), .string s, .int .i64 p] w (RdW (rdK c s.data.toList 2 F p) g w) := by
  have h3 : s.data.toList.length = s.size := by simp
  have ha := and2 ⟨c, hc⟩
  dsimp only at ha
  rw [show c / 2 % 2 = 0 by omega] at ha
  have ha2 : bits .and .u8 (c : Int) 2 = 0 := by simpa using ha
  have HB := Lib.hid hb
  have fz := HB.out.free
  obtain ⟨q0, q1, q2, q3, q4, q5, q6, q7, q8⟩ := HB.out.cells
  have HR := Lib.hid (rdK2_open (F := F) (L := s.data.toList) (p := p) h2)
  rw [h3, ← ext_drop] at HR
  obtain ⟨m, hm⟩ : ∃ m : Nat, s.size - p = m := ⟨_, rfl⟩
  have wr1 : wrap64 ((s.size : Int) - (p : Int)) = (m : Int) := by unfold wrap64; omega
  have WR2 := Lib.hid (show wrap64 ((p : Int) + (m : Int)) = (s.size : Int) by clear wr1; unfold wrap64; omega)
  have s0 : (0 : Int) ≤ (p : Int) := by omega
  have s1 : (p : Int) ≤ (s.size : Int) := by omega
  have s2 : (s.size : Int) ≤ (s.size : Int) := by omega
  clear ha h2 hc hb hm
  go_enter Tryd.func73, Tryd.ntmps73
  go_upto_region 7 with fail
  clear wr1
  have wr2 := WR2.out
  go_wp2
  go_ret2
  have he : Ending.returned (.tuple #[.int .i64 ((p : Int) + ((s.size : Int) - (p : Int))), .bool true]) = .returned (.tuple #[.int .i64 (s.size : Int), .bool true]) := by
    rw [show (p : Int) + ((s.size : Int) - (p : Int)) = (s.size : Int) by omega]
  exact ⟨by rw [HR.out]; exact ⟨he, HB.out.set3 _⟩, grown_set (grown_self w g) 3 _⟩
theorem irdata (g : Nat) (F : Fr) (c : Nat) (hc : c < 256) (s : ByteArray) (p : Nat) (w : World) (hF : Forms w) (hs : s.size ≤ 1048576) (hp : p ≤ s.size) (hb : BoxF w g F) :
    Calls Tryd.prog 73 #[.pointer (some ⟨g, 0, none⟩), .int .u8 (c : Int), .string s, .int .i64 p] w (RdW (rdK c s.data.toList 2 F p) g w) := by
  by_cases h2 : c / 2 % 2 = 1
  · exact irdata_len g F c hc s p w hF hs hp hb h2
  · exact irdata_open g F c hc s p w hs hp hb h2

set_option maxRecDepth 100000 in
set_option maxHeartbeats 1000000 in
/-- impl.readField, of a number -/
theorem irf_num (g : Nat) (F : Fr) (c : Nat) (hc : c < 256) (s : ByteArray) (p : Nat) (w : World) (hF : Forms w) (hs : s.size ≤ 1048576) (hb : BoxF w g F) (i : Int) (hi : isN i) (h1 : i = 1 → c / 4 % 2 = 1) :
    Calls Tryd.prog 50 #[.pointer (some ⟨g, 0, none⟩), .int .i64 i, .int .u8 (c : Int), .string s, .int .i64 p] w (RdW (rdK c s.data.toList i F p) g w) := by
  have hmx : s.size ≤ maxLen := by unfold maxLen; omega
  have ha4 : i = 1 → bits .and .u8 (c : Int) 4 = 4 := fun h => by
    have ha := and4 ⟨c, hc⟩
    dsimp only at ha
    rw [h1 h] at ha
    simpa using ha
  have HB := Lib.hid hb
  have HN := Lib.hid (inumber g i hi)
  clear hc hb
  cases hd : decL (s.data.toList.drop p) with
  | none =>
    have HQ := Lib.hid (idecq_no s (p : Int) w hF hmx (Or.inr (by rw [Int.toNat_natCast]; exact hd)))
    have HR := Lib.hid (rdKn_none (F := F) hi h1 hd)
    clear hd hF h1
    rcases hi with rfl | rfl | rfl | rfl | rfl
    case inr.inl =>
      have ha := ha4 rfl
      clear ha4
      go_enter Tryd.func50, Tryd.ntmps50
      go_wp2_with fail
      refine HQ.out.mono ?_
      rintro e w1 ⟨rfl, hb1⟩
      have HG := Lib.hid (grown_of (g := g) hb1)
      have HB1 := Lib.hid (HB.out.below hb1 HB.out.lt)
      have fz := HB1.out.free
      obtain ⟨q0, q1, q2, q3, q4, q5, q6, q7, q8⟩ := HB1.out.cells
      clear hb1
      go_wp2_with fail
      refine (HN.out _).mono ?_
      rintro e w2 ⟨rfl, rfl⟩
      go_wp2
      go_ret2
      exact ⟨by rw [HR.out]; exact ⟨_, rfl⟩, grown_set HG.out _ _⟩
    all_goals
      clear ha4
      go_enter Tryd.func50, Tryd.ntmps50
      go_wp2_with fail
      refine HQ.out.mono ?_
      rintro e w1 ⟨rfl, hb1⟩
      have HG := Lib.hid (grown_of (g := g) hb1)
      have HB1 := Lib.hid (HB.out.below hb1 HB.out.lt)
      have fz := HB1.out.free
      obtain ⟨q0, q1, q2, q3, q4, q5, q6, q7, q8⟩ := HB1.out.cells
      clear hb1
      go_wp2_with fail
      refine (HN.out _).mono ?_
      rintro e w2 ⟨rfl, rfl⟩
      go_wp2
      go_ret2
      exact ⟨by rw [HR.out]; exact ⟨_, rfl⟩, grown_set HG.out _ _⟩
  | some xk =>
    obtain ⟨x, k⟩ := xk
    have HQ := Lib.hid (idecq_yes s p x k w hF hmx hd)
    have HR := Lib.hid (rdKn_some (F := F) hi h1 hd)
    obtain ⟨q, hq⟩ : ∃ q, p + k = q := ⟨_, rfl⟩
    rw [hq] at HQ HR
    clear hd hF h1 hq
    rcases hi with rfl | rfl | rfl | rfl | rfl
    case inr.inl =>
      have ha := ha4 rfl
      clear ha4
      go_enter Tryd.func50, Tryd.ntmps50
      go_wp2_with fail
      refine HQ.out.mono ?_
      rintro e w1 ⟨rfl, hb1⟩
      have HG := Lib.hid (grown_of (g := g) hb1)
      have HB1 := Lib.hid (HB.out.below hb1 HB.out.lt)
      have fz := HB1.out.free
      obtain ⟨q0, q1, q2, q3, q4, q5, q6, q7, q8⟩ := HB1.out.cells
      clear hb1
      go_wp2_with fail
      refine (HN.out _).mono ?_
      rintro e w2 ⟨rfl, rfl⟩
      go_wp2
      go_ret2
      exact ⟨by rw [HR.out]; exact ⟨rfl, HB1.out.set2 (x : Int)⟩, grown_set HG.out _ _⟩
    all_goals
      clear ha4
      go_enter Tryd.func50, Tryd.ntmps50
      go_wp2_with fail
      refine HQ.out.mono ?_
      rintro e w1 ⟨rfl, hb1⟩
      have HG := Lib.hid (grown_of (g := g) hb1)
      have HB1 := Lib.hid (HB.out.below hb1 HB.out.lt)
      have fz := HB1.out.free
      obtain ⟨q0, q1, q2, q3, q4, q5, q6, q7, q8⟩ := HB1.out.cells
      clear hb1
      go_wp2_with fail
      refine (HN.out _).mono ?_
      rintro e w2 ⟨rfl, rfl⟩
      go_wp2
      go_ret2
      first
        | exact ⟨by rw [HR.out]; exact ⟨rfl, HB1.out.set1 (x : Int)⟩, grown_set HG.out _ _⟩
        | exact ⟨by rw [HR.out]; exact ⟨rfl, HB1.out.set5 (x : Int)⟩, grown_set HG.out _ _⟩
        | exact ⟨by rw [HR.out]; exact ⟨rfl, HB1.out.set6 (x : Int)⟩, grown_set HG.out _ _⟩
        | exact ⟨by rw [HR.out]; exact ⟨rfl, HB1.out.set7 (x : Int)⟩, grown_set HG.out _ _⟩

set_option maxRecDepth 100000 in
set_option maxHeartbeats 1000000 in
/-- impl.readField -/
theorem irf (g : Nat) (F : Fr) (c : Nat) (hc : c < 256) (s : ByteArray) (p : Nat) (w : World) (hF : Forms w) (hs : s.size ≤ 1048576) (hp : p ≤ s.size) (hb : BoxF w g F) (i : Int) (hi : 0 ≤ i ∧ i ≤ 7) :
    Calls Tryd.prog 50 #[.pointer (some ⟨g, 0, none⟩), .int .i64 i, .int .u8 (c : Int), .string s, .int .i64 p] w (RdW (rdK c s.data.toList i F p) g w) := by
  have HB := Lib.hid hb
  have fz := HB.out.free
  obtain ⟨q0, q1, q2, q3, q4, q5, q6, q7, q8⟩ := HB.out.cells
  have ha1 := and1 ⟨c, hc⟩
  dsimp only at ha1
  obtain ⟨y, hy⟩ : ∃ y : Int, ((c % 2 : Nat) : Int) = y := ⟨_, rfl⟩
  rw [hy] at ha1
  have hyd : (y != 0) = decide (c % 2 = 1) := by
    by_cases h : c % 2 = 1
    · rw [decide_eq_true h]; simp; omega
    · rw [decide_eq_false h]; simp; omega
  clear hy
  rcases (show i = 0 ∨ i = 1 ∨ i = 2 ∨ i = 3 ∨ i = 4 ∨ i = 5 ∨ i = 6 ∨ i = 7 by omega) with rfl | rfl | rfl | rfl | rfl | rfl | rfl | rfl
  · exact irf_num g F c hc s p w hF hs hb 0 (by unfold isN; omega) (by omega)
  · by_cases h4 : c / 4 % 2 = 1
    · exact irf_num g F c hc s p w hF hs hb 1 (by unfold isN; omega) (fun _ => h4)
    · have h40 : c / 4 % 2 = 0 := by omega
      have HR := Lib.hid (rdK1_off (L := s.data.toList) (F := F) (p := p) h40)
      have ha := and4 ⟨c, hc⟩
      dsimp only at ha
      rw [h40] at ha
      have ha4 : bits .and .u8 (c : Int) 4 = 0 := by simpa using ha
      clear ha h4 h40 hb hF ha1 hyd
      go_enter Tryd.func50, Tryd.ntmps50
      go_wp2
      go_ret2
      exact ⟨by rw [HR.out]; exact ⟨rfl, HB.out⟩, grown_self w g⟩
  · have HD := Lib.hid (irdata g F c hc s p w hF hs hp hb)
    clear hb hF ha1 hyd hc
    go_enter Tryd.func50, Tryd.ntmps50
    go_wp2_with fail
    refine HD.out.mono ?_
    rintro e w1 ⟨hr, hg⟩
    have HG := Lib.hid hg
    cases hq : rdK c s.data.toList 2 F p with
    | none =>
      rw [hq] at hr
      obtain ⟨n, rfl⟩ := hr
      have HR := Lib.hid hq
      clear hq hg
      go_wp2
      go_ret2
      exact ⟨by rw [HR.out]; exact ⟨_, rfl⟩, HG.out⟩
    | some Fp =>
      obtain ⟨F', p'⟩ := Fp
      rw [hq] at hr
      obtain ⟨rfl, hbox⟩ := hr
      have HBX := Lib.hid hbox
      have HR := Lib.hid hq
      clear hq hg hbox
      go_wp2
      go_ret2
      exact ⟨by rw [HR.out]; exact ⟨rfl, HBX.out⟩, HG.out⟩
  · clear hb hF hc
    go_enter Tryd.func50, Tryd.ntmps50
    go_wp2
    go_ret2
    exact ⟨⟨rfl, HB.out.set4 _⟩, grown_set (grown_self w g) 4 _⟩
  · exact irf_num g F c hc s p w hF hs hb 4 (by unfold isN; omega) (by omega)
  · exact irf_num g F c hc s p w hF hs hb 5 (by unfold isN; omega) (by omega)
  · exact irf_num g F c hc s p w hF hs hb 6 (by unfold isN; omega) (by omega)
  · clear hb hF hc
    go_enter Tryd.func50, Tryd.ntmps50
    go_wp2
    go_ret2
    exact ⟨⟨rfl, HB.out.set8 _⟩, grown_set (grown_self w g) 8 _⟩
end Go.Proofs.YtjbppociogoopaaDoor
