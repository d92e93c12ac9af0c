/-
  What impl.storeCells and the store's read return.
-/
import Derived.Test.YtkhekbfakloaoaaIRn4
namespace Go.Proofs.Ytkhekbfakloaoaa
open Go.RowKit Go.Deep Go.Proofs.Ytkhekbfakloaoaa.Num Go.MuLone

theorem StM.new (w : World) (sz : Int) : StM (w.alloc (.cells (stC 0 sz (List.replicate 64 0)) 89)) w.heap.size 0 sz (List.replicate 64 0) := ⟨heap_alloc_new w _, by simp⟩

theorem st_made (sz : Int) : Try.zeroCells89.setIfInBounds 2 (.int .i64 sz) = stC 0 sz (List.replicate 64 0) := by rfl

set_option maxRecDepth 100000 in
set_option maxHeartbeats 1000000 in
/-- impl.storeCells -/
theorem istore (r : Rn) (A : Option Addr) (cap B : Nat) (w : World) (hB : B ≤ w.heap.size) (hr : Ints w B A r.cs) (h0 : 0 < r.cs.length) (h1 : r.cs.length ≤ 64) :
    Calls Try.prog 40 #[rnV r (.slice A r.cs.length cap)] w fun e w' => ∃ g, e = .returned (.pointer (some ⟨g, 0, none⟩)) ∧ w.heap.size ≤ g ∧ StM w' g 0 r.size (padR r.cs) ∧ Below w.heap.size w w' := by
  have HH := Lib.hid (InRn.start w r A cap 26 (hr.up hB))
  have HL0 := Lib.hid h0
  have HL1 := Lib.hid h1
  clear hr h0 h1
  go_enter Try.func40, Try.ntmps40
  obtain ⟨a0, a1, a2, a3⟩ := HH.out.1
  go_upto_region 1 with fail
  generalize w.alloc (.cells (rnC r.size r.base r.en (.slice A r.cs.length cap)) 26) = w1 at *
  have HS := Lib.hid (StM.new w1 r.size)
  have HH2 := Lib.hid (HH.out.alloc (.cells (stC 0 r.size (List.replicate 64 0)) 89))
  clear a0 a1 a2 a3
  obtain ⟨a0, a1, a2, a3⟩ := HH.out.1
  go_upto_region 2 with fail
  rw [st_made]
  generalize w1.alloc (.cells (stC 0 r.size (List.replicate 64 0)) 89) = w2 at *
  have HG1 : Hid (w.heap.size < w1.heap.size) := Lib.hid HH.out.2.2.1
  generalize w1.heap.size = g at *
  clear a0 a1 a2 a3
  obtain ⟨a0, a1, a2, a3⟩ := HH2.out.1
  have b3 : w2.drew.cell? ⟨w.heap.size, 3, none⟩ = some (.slice A r.cs.length cap) := a3
  have HSd : Hid (StM w2.drew g 0 r.size (List.replicate 64 0)) := Lib.hid HS.out
  have HR : Hid (Ints w2.drew w.heap.size A r.cs) := Lib.hid (HH2.out.drew).2.1
  go_region_law (refine step_copyI rfl (.tmp 11) (.tmp 13) rfl g 0 r.size rfl r.cs w.heap.size A cap HL0.out HL1.out rfl HR.out HSd.out ?_; intro w5 hs5 hb5)
  all_goals (
    have HS5 := Lib.hid hs5
    have HB5 : Hid (Below w.heap.size w w5) := Lib.hid (HH2.out.drew.2.2.2.trans (hb5.mono (Nat.le_of_lt HG1.out)))
    clear hs5 hb5 a0 a1 a2 a3 b3
    go_wp2
    go_ret
    exact ⟨g, rfl, Nat.le_of_lt HG1.out, HS5.out, HB5.out⟩)
end Go.Proofs.Ytkhekbfakloaoaa
