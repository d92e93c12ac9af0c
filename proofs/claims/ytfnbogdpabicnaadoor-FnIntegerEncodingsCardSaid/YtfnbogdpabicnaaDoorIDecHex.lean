/-
  What impl.DecodeHex returns, which ranges over runes.
-/
import Derived.Test.YtfnbogdpabicnaaDoorBytes
import Derived.Laws.RangeAny
namespace Go.Proofs.YtfnbogdpabicnaaDoor
open Go.RowKit Go.Deep Go.Proofs.YtfnbogdpabicnaaDoor.Num

/-- impl.hexValue -/
theorem hv_dec (r : Int) (w : World) (h0 : 48 ≤ r) (h9 : r ≤ 57) :
    Calls Tryd.prog 26 #[.int .i32 r] w fun e w' => e = .returned (.tuple #[.int .u8 (r - 48), .bool true]) ∧ w = w' := by
  go_enter Tryd.func26, Tryd.ntmps26
  go_wp2
  go_ret2
  exact ⟨rfl, rfl⟩

theorem hv_hex (r : Int) (w : World) (h0 : 97 ≤ r) (h9 : r ≤ 102) :
    Calls Tryd.prog 26 #[.int .i32 r] w fun e w' => e = .returned (.tuple #[.int .u8 (r - 97 + 10), .bool true]) ∧ w = w' := by
  have h57 : ¬ r ≤ 57 := by omega
  go_enter Tryd.func26, Tryd.ntmps26
  go_wp2
  go_ret2
  exact ⟨rfl, rfl⟩

theorem hv_no (r : Int) (w : World) (h : r < 48 ∨ 57 < r ∧ r < 97 ∨ 102 < r) :
    Calls Tryd.prog 26 #[.int .i32 r] w fun e w' => e = .returned (.tuple #[.int .u8 0, .bool false]) ∧ w = w' := by
  rcases h with h | ⟨h, h'⟩ | h
  · have h97 : ¬ 97 ≤ r := by omega
    have h48 : ¬ 48 ≤ r := by omega
    go_enter Tryd.func26, Tryd.ntmps26
    go_wp2
    go_ret2
    exact ⟨rfl, rfl⟩
  · have h97 : ¬ 97 ≤ r := by omega
    have h57 : ¬ r ≤ 57 := by omega
    go_enter Tryd.func26, Tryd.ntmps26
    go_wp2
    go_ret2
    exact ⟨rfl, rfl⟩
  · have h102 : ¬ r ≤ 102 := by omega
    have h57 : ¬ r ≤ 57 := by omega
    go_enter Tryd.func26, Tryd.ntmps26
    go_wp2
    go_ret2
    exact ⟨rfl, rfl⟩

theorem hv_yes (b : UInt8) (d : Nat) (w : World) (h : unD b = some d) :
    Calls Tryd.prog 26 #[.int .i32 (b.toNat : Int)] w fun e w' => e = .returned (.tuple #[.int .u8 (d : Int), .bool true]) ∧ w = w' := by
  unfold unD at h
  split at h
  · obtain rfl := Option.some.inj h
    have e : ((b.toNat - 48 : Nat) : Int) = (b.toNat : Int) - 48 := by omega
    rw [e]
    exact hv_dec _ w (by omega) (by omega)
  · split at h
    · obtain rfl := Option.some.inj h
      have e : ((b.toNat - 87 : Nat) : Int) = (b.toNat : Int) - 97 + 10 := by omega
      rw [e]
      exact hv_hex _ w (by omega) (by omega)
    · cases h

/-- A rune that begins where no digit lies is no digit. -/
theorem rune_no (s : ByteArray) (pos : Nat) (h : pos < s.size) (hn : unD s[pos] = none) : ((Utf8.decode s pos).1 : Int) < 48 ∨ 57 < ((Utf8.decode s pos).1 : Int) ∧ ((Utf8.decode s pos).1 : Int) < 97 ∨ 102 < ((Utf8.decode s pos).1 : Int) := by
  by_cases ha : s[pos].toNat < 128
  · rw [decode_ascii s pos h ha]
    unfold unD at hn
    split at hn
    · cases hn
    · split at hn
      · cases hn
      · show ((s[pos].toNat : Nat) : Int) < 48 ∨ _
        omega
  · have := (decode_high s pos h (by omega)).1
    omega

/-- The world while the string is ranged over: the row of bytes, and behind it the place in the string. -/
def Rng (w : World) (L : List UInt8) (s : ByteArray) (pos : Nat) : World := (w.alloc (.cells (cellsB L) 5)).iter s pos

theorem Rng.cell (w : World) (L : List UInt8) (s : ByteArray) (pos j : Nat) (h : j < L.length) : (Rng w L s pos).cell? ⟨w.heap.size, j, none⟩ = some (.int .u8 (L[j].toNat : Int)) := by
  unfold Rng World.iter
  rw [World.cell?_alloc_past _ _ _ (by simp), World.cell?_alloc_at _ _ _ _ rfl, cellsB_at L j h]

theorem Rng.free (w : World) (L : List UInt8) (s : ByteArray) (pos j : Nat) : (Rng w L s pos).frozen? ⟨w.heap.size, j, none⟩ = false := by
  unfold Rng World.iter
  rw [World.frozen?_alloc_past _ _ _ (by simp), World.frozen?_alloc_at _ _ _ _ rfl]

theorem Rng.set (w : World) (a b : List UInt8) (c : UInt8) (x : Nat) (hx : x < 256) (s : ByteArray) (pos : Nat) : (Rng w (a ++ c :: b) s pos).setCell ⟨w.heap.size, a.length, none⟩ (.int .u8 (x : Int)) = Rng w (a ++ UInt8.ofNat x :: b) s pos := by
  unfold Rng World.iter
  rw [World.setCell_alloc_past _ _ _ _ (by simp), World.setCell_alloc_at _ _ _ _ _ rfl, cellsB_set a b c x hx]

theorem Rng.below (w : World) (L : List UInt8) (s : ByteArray) (pos : Nat) : Below w.heap.size w (Rng w L s pos) :=
  ((Below.refl _ _).alloc (Nat.le_refl _) _).alloc (by simp) _

theorem Rng.next (w : World) (L : List UInt8) (s : ByteArray) (pos : Nat) (h : pos < s.size) (ty : TypeId) :
    (Instr.next (.pointer (some ⟨w.heap.size + 1, 0, none⟩)) true ty).run Tryd.prog (Rng w L s pos) = .ok (.tuple #[.bool true, .int .i64 pos, .int .i32 (Utf8.decode s pos).1]) (Rng w L s (pos + (Utf8.decode s pos).2)) := by
  have h := run_next_any (P := Tryd.prog) (w.alloc (.cells (cellsB L) 5)) s pos ty h
  simpa [Rng] using h

theorem Rng.nextA (w : World) (L : List UInt8) (s : ByteArray) (pos : Nat) (h : pos < s.size) (ha : s[pos].toNat < 128) (ty : TypeId) :
    (Instr.next (.pointer (some ⟨w.heap.size + 1, 0, none⟩)) true ty).run Tryd.prog (Rng w L s pos) = .ok (.tuple #[.bool true, .int .i64 pos, .int .i32 (s[pos].toNat : Int)]) (Rng w L s (pos + 1)) := by
  have h := run_next_ascii (P := Tryd.prog) (w.alloc (.cells (cellsB L) 5)) s pos ty h ha
  simpa [Rng] using h

theorem Rng.nextE (w : World) (L : List UInt8) (s : ByteArray) (pos : Nat) (h : ¬ pos < s.size) (ty : TypeId) :
    (Instr.next (.pointer (some ⟨w.heap.size + 1, 0, none⟩)) true ty).run Tryd.prog (Rng w L s pos) = .ok (.tuple #[.bool false]) (Rng w L s pos) := by
  have h := run_next_end (P := Tryd.prog) (w.alloc (.cells (cellsB L) 5)) s pos ty h
  simpa [Rng] using h

theorem Rng.at_ (w : World) (L : List UInt8) (s : ByteArray) (pos : Nat) : (Rng w L s pos).iterPos (w.heap.size + 1) = pos := by
  have h := World.iterPos_iter (w.alloc (.cells (cellsB L) 5)) s pos
  simpa [Rng] using h

theorem Rng.conv (w : World) (L : List UInt8) (s : ByteArray) (pos cap : Nat) :
    (convert 22 9 (.slice (some ⟨w.heap.size, 0, none⟩) L.length cap)).run Tryd.prog (Rng w L s pos) = .ok (.string ⟨L.toArray⟩) (Rng w L s pos) :=
  conv_row (Rng w L s pos) w.heap.size L cap (fun j hj => by rw [Rng.cell w L s pos j hj, cellsB_at L j hj])

/-- What holds at each round of the loop of impl.DecodeHex. -/
def HexRel (s : ByteArray) (w : World) (N : Nat) (wr : World) : Prop :=
  ∃ (k m : Nat) (r : List UInt8), r.length = k ∧ unL s.data.toList = (unL (s.data.toList.drop (2 * k))).map (r ++ ·) ∧
    ((k + m = N ∧ wr = Rng w (r ++ List.replicate m 0) s (2 * k)) ∨
     (k + m + 1 = N ∧ ∃ (d : Nat) (h : 2 * k < s.size), d < 16 ∧ unD s[2 * k] = some d ∧ wr = Rng w (r ++ UInt8.ofNat d :: List.replicate m 0) s (2 * k + 1)))

theorem or_zero_u8 (d : Nat) (h : d < 16) : bits .or .u8 0 (d : Int) = (d : Int) := by
  have h1 := u8_or_nat 0 d (by decide) (by omega)
  rw [Nat.zero_or] at h1
  exact h1

theorem or_pair_u8 (x y : Nat) (hx : x < 16) (hy : y < 16) : bits .or .u8 ((x : Int) * 16) (y : Int) = 16 * (x : Int) + (y : Int) := by
  have h1 := u8_or_nat (x * 16) y (by omega) (by omega)
  rw [nat_join 4 (x * 16) y (by omega) (by omega), Int.natCast_mul] at h1
  refine h1.trans ?_
  omega

set_option maxRecDepth 100000 in
set_option maxHeartbeats 800000 in
/-- impl.DecodeHex -/
theorem idh (s : ByteArray) (w : World) (hs : s.size ≤ 1048576) :
    Calls Tryd.prog 16 #[.string s] w fun e w' => e = .returned (.tuple #[.string ⟨(hexR s.data.toList).toArray⟩, .bool (hexOk s.data.toList)]) ∧ Below w.heap.size w w' := by
  by_cases hodd : s.size % 2 = 1
  · have ho : (((s.size : Int) % 2) != 0) = true := by simp; omega
    rw [hexR_odd (by simpa using hodd), hexOk_odd (by simpa using hodd)]
    clear hodd
    go_enter Tryd.func16, Tryd.ntmps16
    go_wp2
    go_ret2
    exact ⟨rfl, Below.refl _ _⟩
  · have ho : (((s.size : Int) % 2) != 0) = false := by simp; omega
    have hev : s.data.toList.length % 2 = 0 := by simp; omega
    have HEV := Lib.hid hev
    obtain ⟨N, hN⟩ : ∃ N, s.size = 2 * N := ⟨s.size / 2, by omega⟩
    have hmk := make_row N (by omega)
    have hdiv : (s.size : Int) / 2 = (N : Int) := by omega
    have HN := Lib.hid hN
    clear hev hodd hN
    go_enter Tryd.func16, Tryd.ntmps16
    go_wp2
    clear hmk hdiv ho
    go_loopw [5] (fun _ wr => HexRel s w N wr) (fun _ wr => s.size - wr.iterPos (w.heap.size + 1))
    case atStart => exact ⟨0, N, [], rfl, by simp, .inl ⟨by omega, rfl⟩⟩
    case round =>
      obtain ⟨k, m, r, hrl, hun, hcase⟩ := hrel
      have HRL := Lib.hid hrl
      have HUN := Lib.hid hun
      clear hrl hun
      rcases hcase with ⟨hkm, rfl⟩ | ⟨hkm, x, hlt, hx16, hx, rfl⟩
      · have HKM := Lib.hid hkm
        clear hkm
        cases m with
        | zero =>
          have hnx := Rng.nextE w r s (2 * k) (by have := HKM.out; have := HN.out; omega)
          have hcv := Rng.conv w r s (2 * k) N
          rw [show r.length = N from by have := HKM.out; have := HRL.out; omega] at hcv
          have HS := Lib.hid (unL_end (by have := HKM.out; have := HN.out; simp; omega) HUN.out)
          go_wp2
          go_ret2
          exact ⟨by rw [hexR_some HEV.out HS.out, hexOk_some HEV.out HS.out]; rfl, Rng.below _ _ _ _⟩
        | succ m =>
          have hlt : 2 * k < s.size := by have := HKM.out; have := HN.out; omega
          have hlt1 : 2 * k + 1 < s.size := by have := HKM.out; have := HN.out; omega
          obtain ⟨h1, h2, h3⟩ := unL_step (by simpa using hlt1) HUN.out
          have H2 := Lib.hid h2
          clear h1 h2 h3
          cases hx : unD (s[2 * k]'hlt) with
          | none =>
            have hnx := Rng.next w (r ++ List.replicate (m + 1) 0) s (2 * k) hlt
            have hno := rune_no s (2 * k) hlt hx
            have HNo := Lib.hid hno
            have HX := Lib.hid (H2.out hx)
            clear hno hx
            go_wp2_with (go_at_call 26; refine (hv_no _ _ HNo.out).mono ?_; rintro e w1 ⟨rfl, rfl⟩)
            go_ret2
            exact ⟨by rw [hexR_none HX.out, hexOk_none HX.out]; rfl, Rng.below _ _ _ _⟩
          | some x =>
            have hx16 := unD_lt _ _ hx
            have hnx := Rng.nextA w (r ++ List.replicate (m + 1) 0) s (2 * k) hlt (by have := unD_le _ _ hx; omega)
            have hkN : k < N := by have := HKM.out; omega
            have hcell := Rng.cell w (r ++ List.replicate (m + 1) 0) s (2 * k + 1) k (by have := HRL.out; simp; omega)
            have hfr := Rng.free w (r ++ List.replicate (m + 1) 0) s (2 * k + 1) k
            have hor := or_zero_u8 x hx16
            have HX := Lib.hid hx
            clear hx
            have hc0 : (r ++ List.replicate (m + 1) (0 : UInt8))[k]'(by have := HRL.out; simp; omega) = 0 := by
              rw [List.getElem_append_right (by have := HRL.out; omega)]; simp
            rw [hc0] at hcell
            have hset := Rng.set w r (List.replicate m 0) 0 x (by omega) s (2 * k + 1)
            rw [HRL.out] at hset
            have hset' : (Rng w (r ++ List.replicate (m + 1) 0) s (2 * k + 1)).setCell ⟨w.heap.size, k, none⟩ (.int .u8 (x : Int)) = Rng w (r ++ UInt8.ofNat x :: List.replicate m 0) s (2 * k + 1) := hset
            clear hset hc0
            go_wp2_with (go_at_call 26; refine (hv_yes _ _ _ HX.out).mono ?_; rintro e w1 ⟨rfl, rfl⟩)
            refine ⟨⟨k, m, r, HRL.out, HUN.out, .inr ⟨by have := HKM.out; omega, x, hlt, hx16, HX.out, rfl⟩⟩, ?_⟩
            rw [Rng.at_, Rng.at_]
            omega
      · have HKM := Lib.hid hkm
        have hlt1 : 2 * k + 1 < s.size := by have := HKM.out; have := HN.out; omega
        have hkN : k < N := by have := HKM.out; omega
        have hdv : (2 * (k : Int) + 1) / 2 = (k : Int) := by omega
        obtain ⟨h1, h2, h3⟩ := unL_step (by simpa using hlt1) HUN.out
        have H3 := Lib.hid h3
        have H1 := Lib.hid h1
        have HX := Lib.hid hx
        clear h1 h2 h3 hkm hx
        cases hy : unD (s[2 * k + 1]'hlt1) with
        | none =>
          have hnx := Rng.next w (r ++ UInt8.ofNat x :: List.replicate m 0) s (2 * k + 1) hlt1
          have hno := rune_no s (2 * k + 1) hlt1 hy
          have HNo := Lib.hid hno
          have HY := Lib.hid (H3.out hy)
          clear hno hy H1 H3
          go_wp2_with (go_at_call 26; refine (hv_no _ _ HNo.out).mono ?_; rintro e w1 ⟨rfl, rfl⟩)
          go_ret2
          exact ⟨by rw [hexR_none HY.out, hexOk_none HY.out]; rfl, Rng.below _ _ _ _⟩
        | some y =>
          have hy16 := unD_lt _ _ hy
          have hnx := Rng.nextA w (r ++ UInt8.ofNat x :: List.replicate m 0) s (2 * k + 1) hlt1 (by have := unD_le _ _ hy; omega)
          have hcell := Rng.cell w (r ++ UInt8.ofNat x :: List.replicate m 0) s (2 * k + 1 + 1) k (by have := HRL.out; simp; omega)
          have hfr := Rng.free w (r ++ UInt8.ofNat x :: List.replicate m 0) s (2 * k + 1 + 1) k
          have HY := Lib.hid hy
          have HU := Lib.hid (H1.out x y HX.out hy)
          clear hy H1 H3
          have hc0 : ((r ++ UInt8.ofNat x :: List.replicate m (0 : UInt8))[k]'(by have := HRL.out; simp; omega)).toNat = x := by
            have e : (UInt8.ofNat x).toNat = x := by rw [UInt8.toNat_ofNat']; omega
            rw [List.getElem_append_right (by have := HRL.out; omega)]
            simp [HRL.out, e]
          rw [hc0] at hcell
          clear hc0
          have hset := Rng.set w r (List.replicate m 0) (UInt8.ofNat x) (16 * x + y) (by omega) s (2 * k + 1 + 1)
          rw [HRL.out] at hset
          have hset' : (Rng w (r ++ UInt8.ofNat x :: List.replicate m 0) s (2 * k + 1 + 1)).setCell ⟨w.heap.size, k, none⟩ (.int .u8 (16 * (x : Int) + (y : Int))) = Rng w (r ++ UInt8.ofNat (16 * x + y) :: List.replicate m 0) s (2 * k + 1 + 1) := hset
          clear hset
          have hor := or_pair_u8 x y hx16 hy16
          generalize UInt8.ofNat (16 * x + y) = bb at hset' HU
          go_wp2_with (go_at_call 26; refine (hv_yes _ _ _ HY.out).mono ?_; rintro e w1 ⟨rfl, rfl⟩)
          refine ⟨⟨k + 1, m, r ++ [bb], by simp [HRL.out], HU.out, .inl ⟨by have := HKM.out; omega, ?_⟩⟩, ?_⟩
          · rw [List.append_assoc]; rfl
          · rw [Rng.at_, Rng.at_]
            omega
end Go.Proofs.YtfnbogdpabicnaaDoor
