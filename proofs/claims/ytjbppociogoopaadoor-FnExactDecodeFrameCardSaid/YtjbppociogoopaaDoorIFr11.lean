/-
  What impl.DecodeFrame returns.
-/
import Derived.Test.YtjbppociogoopaaDoorIFr10
import Derived.Test.YtjbppociogoopaaDoorIFr6
import Derived.Test.YtjbppociogoopaaDoorSFr6
namespace Go.Proofs.YtjbppociogoopaaDoor
open Go.RowKit Go.Deep Go.Proofs.YtjbppociogoopaaDoor.Num

theorem rdK_place {c : Nat} {L : List UInt8} {i : Int} {F F' : Fr} {p p' : Nat} (h : rdK c L i F p = some (F', p')) (hp : p ≤ L.length) : p ≤ p' ∧ p' ≤ L.length := by
  unfold rdK at h
  split at h
  · simp only [Option.some.injEq, Prod.mk.injEq] at h; omega
  split at h
  · simp only [Option.some.injEq, Prod.mk.injEq] at h; omega
  split at h
  · split at h
    · split at h
      · cases h
      · rename_i x k hd
        have hk := (decL_some hd).2.1
        rw [List.length_drop] at hk
        split at h
        · simp only [Option.some.injEq, Prod.mk.injEq] at h
          have h1 := (decL_some hd).1
          omega
        · cases h
    · simp only [Option.some.injEq, Prod.mk.injEq] at h; omega
  split at h
  · simp only [Option.some.injEq, Prod.mk.injEq] at h; omega
  · split at h
    · cases h
    · rename_i x k hd
      have hk := (decL_some hd).2.1
      rw [List.length_drop] at hk
      have h1 := (decL_some hd).1
      simp only [Option.some.injEq, Prod.mk.injEq] at h
      omega
/-- The result's block, the frame's block, and all that was there, once a field has been read. -/
theorem HeldS.read {w W W1 : World} {g1 g2 : Nat} {f f' : Fr} (h : HeldS w g1 g2 f W) (hg : W.grownBy W1 (some g2)) (hb : BoxF W1 g2 f') : HeldS w g1 g2 f' W1 := by
  refine ⟨?_, hb, h.2.2.1.grown hg h.2.2.1.size (fun k hk => ?_), h.2.2.2⟩
  · have hne := h.ne
    exact (hg.block g1 h.1.lt (fun e => hne (Option.some.inj e).symm)).trans h.1
  · have := Option.some.inj hk
    have := h.2.2.2
    omega
theorem Flds.read {w w' : World} {K g : Nat} {A : Option Addr} {l : List Int} (h : Flds w K A l) (hg : w.grownBy w' (some g)) (hgK : g < K) : Flds w' K A l := h.kept hg.size fun k hK hk _ => hg.block k hk (fun e => by have := Option.some.inj e; omega)

set_option maxRecDepth 100000 in
set_option maxHeartbeats 1000000 in
/-- impl.DecodeFrame, where there is no place -/
theorem idecf_no (s : ByteArray) (a : Int) (w : World) (h : a < 0 ∨ s.size ≤ a) :
    Calls Tryd.prog 13 #[.string s, .int .i64 a] w fun e w' => e = .returned (.tuple #[frV fr0, .int .i64 0, .bool false]) ∧ Below w.heap.size w w' := by
  have H0 : BoxF (w.alloc (.cells (frC fr0) 25)) w.heap.size fr0 := BoxF.new w fr0
  have HB0 : Below w.heap.size w (w.alloc (.cells (frC fr0) 25)) := (Below.refl _ _).alloc (Nat.le_refl _) _
  have HH0 := Lib.hid H0
  have HHB := Lib.hid HB0
  clear H0 HB0
  by_cases h0 : a < 0
  · have hd : decide (a < 0) = true := decide_eq_true h0
    clear h h0
    go_enter Tryd.func13, Tryd.ntmps13
    go_wp2
    refine bodyPost_ret (results_frame rfl _ _ w.heap.size _ _ _ _ rfl HH0.out Tryd.underlying25 rfl (by kernel_rfl)) rfl ?_
    exact ⟨rfl, HHB.out⟩
  · have hd : decide (a < 0) = false := decide_eq_false h0
    have hd2 : decide ((s.size : Int) ≤ a) = true := decide_eq_true (by omega)
    clear h h0
    go_enter Tryd.func13, Tryd.ntmps13
    go_wp2
    refine bodyPost_ret (results_frame rfl _ _ w.heap.size _ _ _ _ rfl HH0.out Tryd.underlying25 rfl (by kernel_rfl)) rfl ?_
    exact ⟨rfl, HHB.out⟩

end Go.Proofs.YtjbppociogoopaaDoor
