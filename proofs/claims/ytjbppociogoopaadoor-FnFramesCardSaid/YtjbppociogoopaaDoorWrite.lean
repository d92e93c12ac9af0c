/-
  What impl.writeForm returns: the bytes of a number in a form, filled up with zeros.
-/
import Derived.Test.YtjbppociogoopaaDoorForms
namespace Go.Proofs.YtjbppociogoopaaDoor
open Go.RowKit Go.Deep Go.Proofs.YtjbppociogoopaaDoor.Num

/-- The bytes of a form, filled up with zeros. -/
def padQ (k n : Nat) : List UInt8 := putQ k n ++ List.replicate (8 - k) 0
theorem sizeBytes : (Tryd.prog.info? 112).map (·.size) = some 8 := by kernel_rfl
theorem u8_or_mark (a m : Nat) (ha : a < 64) (hm : m = 0 ∨ m = 64 ∨ m = 128 ∨ m = 192) : bits .or .u8 (a : Int) (m : Int) = ((m + a : Nat) : Int) := by
  have e1 : ((a : Int) % ((2 ^ 8 : Nat) : Int)).toNat = a := by omega
  have e2 : ((m : Int) % ((2 ^ 8 : Nat) : Int)).toNat = m := by omega
  show IntKind.u8.wrap ((BitVec.ofInt 8 (a : Int) ||| BitVec.ofInt 8 (m : Int)).toNat : Int) = _
  rw [BitVec.toNat_or, BitVec.toNat_ofInt, BitVec.toNat_ofInt, e1, e2, Nat.or_comm, nat_join 6 m a (by rcases hm with h | h | h | h <;> rw [h]) ha]
  simp [IntKind.wrap, IntKind.signed, IntKind.bits]
  omega
theorem eight (l : List UInt8) (h : l.length = 8) : ∃ b0 b1 b2 b3 b4 b5 b6 b7, l = [b0, b1, b2, b3, b4, b5, b6, b7] := by
  match l, h with
  | [b0, b1, b2, b3, b4, b5, b6, b7], _ => exact ⟨b0, b1, b2, b3, b4, b5, b6, b7, rfl⟩

/-- What the loop leaves, and what the mark makes of it. -/
theorem pad_parts (k n : Nat) (hk : k = 1 ∨ k = 2 ∨ k = 4 ∨ k = 8) (hd : dn (k - 1) n < 64) :
    ∃ b0 b1 b2 b3 b4 b5 b6 b7 : UInt8, fixB k n ++ List.replicate (8 - k) 0 = [b0, b1, b2, b3, b4, b5, b6, b7] ∧ b0.toNat < 64 ∧ padQ k n = [UInt8.ofNat (qmk k + b0.toNat), b1, b2, b3, b4, b5, b6, b7] := by
  obtain ⟨b0, b1, b2, b3, b4, b5, b6, b7, h⟩ := eight (fixB k n ++ List.replicate (8 - k) 0) (by rw [List.length_append, fixB_len, List.length_replicate]; omega)
  refine ⟨b0, b1, b2, b3, b4, b5, b6, b7, h, ?_, ?_⟩
  · obtain ⟨j, rfl⟩ : ∃ j, k = j + 1 := ⟨k - 1, by omega⟩
    rw [fixB_cons, List.cons_append] at h
    rw [Nat.add_sub_cancel] at hd
    have hb := (List.cons.inj h).1
    rw [← hb, UInt8.toNat_ofNat']
    omega
  · obtain ⟨j, rfl⟩ : ∃ j, k = j + 1 := ⟨k - 1, by omega⟩
    rw [padQ, putQ]
    rw [fixB_cons] at h ⊢
    rw [List.cons_append] at h
    obtain ⟨hb, ht⟩ := List.cons.inj h
    rw [setHead, hb, List.cons_append, ht]

set_option maxRecDepth 100000 in
set_option maxHeartbeats 400000 in
/-- impl.writeForm, where the number fits the form. -/
theorem iwrite (n k : Nat) (w : World) (_hn : n ≤ 4611686018427387903) (hk : k = 1 ∨ k = 2 ∨ k = 4 ∨ k = 8) (hd : dn (k - 1) n < 64) :
    Calls Tryd.prog 84 #[.int .i64 n, formV k] w fun e w' => e = .returned (.agg (cellsB (padQ k n))) ∧ Below w.heap.size w w' := by
  obtain ⟨mk, most, hf, hmk⟩ : ∃ mk most : Int, formV k = .agg #[.int .u8 mk, .int .i64 k, .int .i64 most] ∧ Hid (mk = (qmk k : Int)) := by
    rcases hk with rfl | rfl | rfl | rfl <;> exact ⟨_, _, rfl, Lib.hid rfl⟩
  have hm4 : qmk k = 0 ∨ qmk k = 64 ∨ qmk k = 128 ∨ qmk k = 192 := by
    rcases hk with rfl | rfl | rfl | rfl <;> decide
  obtain ⟨b0, b1, b2, b3, b4, b5, b6, b7, h1, h2, h3⟩ := pad_parts k n hk hd
  have hor : bits .or .u8 (b0.toNat : Int) mk = ((qmk k + b0.toNat : Nat) : Int) := by
    rw [hmk.out]; exact u8_or_mark _ _ h2 hm4
  have H1 : Hid (cellsB (fixB k n ++ List.replicate (8 - k) 0) = #[.int .u8 b0.toNat, .int .u8 b1.toNat, .int .u8 b2.toNat, .int .u8 b3.toNat, .int .u8 b4.toNat, .int .u8 b5.toNat, .int .u8 b6.toNat, .int .u8 b7.toNat]) := Lib.hid (by rw [h1]; rfl)
  have H3 : Hid (cellsB (padQ k n) = #[.int .u8 ((qmk k : Int) + (b0.toNat : Int)), .int .u8 b1.toNat, .int .u8 b2.toNat, .int .u8 b3.toNat, .int .u8 b4.toNat, .int .u8 b5.toNat, .int .u8 b6.toNat, .int .u8 b7.toNat]) := Lib.hid (by
    have e : ((UInt8.ofNat (qmk k + b0.toNat)).toNat : Int) = (qmk k : Int) + (b0.toNat : Int) := by rw [UInt8.toNat_ofNat']; omega
    rw [h3, cellsB, List.map_cons, e]; rfl)
  have H0 : Hid (cellsB (List.replicate k 0 ++ (fixB 0 n ++ List.replicate (8 - k) 0)) = #[.int .u8 0, .int .u8 0, .int .u8 0, .int .u8 0, .int .u8 0, .int .u8 0, .int .u8 0, .int .u8 0]) := Lib.hid (by
    have e : List.replicate k (0 : UInt8) ++ (fixB 0 n ++ List.replicate (8 - k) 0) = List.replicate 8 0 := by
      rw [fixB, List.nil_append, List.replicate_append_replicate, show k + (8 - k) = 8 from by omega]
    rw [e]; rfl)
  clear h1 h2 h3 hm4 hd
  have hk8 : k ≤ 8 := by omega
  clear hk
  rw [hf, H3.out]
  go_enter Tryd.func84, Tryd.ntmps84
  go_wp2
  go_loopw [0, 6] (fun x i wr => ∃ m q : Nat, m + q = k ∧ i = .int .i64 ((m : Int) - 1) ∧ x = .int .i64 (dn q n) ∧ wr = ((w.alloc (.cells #[.int .u8 mk, .int .i64 k, .int .i64 most] 109)).alloc (.cells #[.int .u8 0, .int .u8 0, .int .u8 0, .int .u8 0, .int .u8 0, .int .u8 0, .int .u8 0, .int .u8 0] 112)).alloc (.cells (cellsB (List.replicate m 0 ++ (fixB q n ++ List.replicate (8 - k) 0))) 112)) (fun _ i _ => (intOf i + 1).toNat)
  case atStart => exact ⟨k, 0, by omega, rfl, rfl, by rw [H0.out]⟩
  case round =>
    obtain ⟨m, q, hq, rfl, rfl, rfl⟩ := hrel
    have hdq := dn_le q n
    cases m with
    | zero =>
      obtain rfl : q = k := by omega
      rw [List.replicate_zero, List.nil_append, H1.out]
      go_wp2
      (try simp only [Exit.inBlock, Exit.then])
      refine bodyPost_ret (results_cell_row rfl _ _ (w.heap.size + 1) _ _ _ _ rfl ((Below.heap_alloc _ _ _ (by simp)).trans (heap_alloc2_new w _ _)) Tryd.underlying112 rfl sizeBytes) rfl ?_
      exact ⟨rfl, (((Below.refl _ _).alloc (Nat.le_refl _) _).alloc (by simp) _).alloc (by simp; omega) _⟩
    | succ m =>
      rw [show ((m + 1 : Nat) : Int) - 1 = (m : Int) from by omega]
      have hlt : m < 8 := by omega
      have hcell : (cellsB (List.replicate (m + 1) 0 ++ (fixB q n ++ List.replicate (8 - k) 0)))[m]? = some (.int .u8 0) := by
        rw [cellsB_at _ _ (by simp; omega)]; simp
      have hset : (cellsB (List.replicate (m + 1) 0 ++ (fixB q n ++ List.replicate (8 - k) 0))).setIfInBounds m (.int .u8 ((dn q n : Int) % 256)) = cellsB (List.replicate m 0 ++ (fixB (q + 1) n ++ List.replicate (8 - k) 0)) := by
        have h := cellsB_set (List.replicate m 0) (fixB q n ++ List.replicate (8 - k) 0) 0 (dn q n % 256) (by omega)
        rw [List.length_replicate] at h
        rw [fixB_cons, List.cons_append, ← h, List.replicate_succ', List.append_assoc]; rfl
      have HS := Lib.hid hset
      clear hset
      go_wp2
      go_roundw
      case rel => exact ⟨m, q + 1, by omega, rfl, by go_num, by rw [HS.out]⟩
      case measure => simp [intOf]

set_option maxRecDepth 100000 in
/-- impl.writeForm at the zero form. -/
theorem iwrite0 (n : Int) (w : World) :
    Calls Tryd.prog 84 #[.int .i64 n, formV 0] w fun e w' => e = .returned (.agg (cellsB (List.replicate 8 0))) ∧ Below w.heap.size w w' := by
  have hor : bits .or .u8 0 0 = 0 := by decide
  have H0 : Hid (cellsB (List.replicate 8 0) = #[.int .u8 0, .int .u8 0, .int .u8 0, .int .u8 0, .int .u8 0, .int .u8 0, .int .u8 0, .int .u8 0]) := Lib.hid rfl
  rw [H0.out, show formV 0 = .agg #[.int .u8 0, .int .i64 0, .int .i64 0] from rfl]
  go_enter Tryd.func84, Tryd.ntmps84
  go_wp2
  go_loopw [6] (fun i wr => i = .int .i64 (-1) ∧ wr = ((w.alloc (.cells #[.int .u8 0, .int .i64 0, .int .i64 0] 109)).alloc (.cells #[.int .u8 0, .int .u8 0, .int .u8 0, .int .u8 0, .int .u8 0, .int .u8 0, .int .u8 0, .int .u8 0] 112)).alloc (.cells #[.int .u8 0, .int .u8 0, .int .u8 0, .int .u8 0, .int .u8 0, .int .u8 0, .int .u8 0, .int .u8 0] 112)) (fun i _ => (intOf i).toNat)
  case atStart => exact ⟨rfl, rfl⟩
  case round =>
    obtain ⟨rfl, rfl⟩ := hrel
    go_wp2
    (try simp only [Exit.inBlock, Exit.then])
    refine bodyPost_ret (results_cell_row rfl _ _ (w.heap.size + 1) _ _ _ _ rfl ((Below.heap_alloc _ _ _ (by simp)).trans (heap_alloc2_new w _ _)) Tryd.underlying112 rfl sizeBytes) rfl ?_
    exact ⟨rfl, (((Below.refl _ _).alloc (Nat.le_refl _) _).alloc (by simp) _).alloc (by simp; omega) _⟩
end Go.Proofs.YtjbppociogoopaaDoor
