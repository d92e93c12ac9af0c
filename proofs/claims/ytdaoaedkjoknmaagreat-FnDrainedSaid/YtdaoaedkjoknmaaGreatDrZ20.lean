/-
  Contracts and lemmas for the law on draining.
-/
import Derived.Test.YtdaoaedkjoknmaaGreatDrZ0
import Derived.Test.YtdaoaedkjoknmaaGreatDrZ13
import Derived.Test.YtdaoaedkjoknmaaGreatDrZ1
import Derived.Laws.CopyRow
import Derived.Laws.CopyOwn
import Derived.Deep.RegionLaw
set_option maxRecDepth 1000000
set_option maxHeartbeats 8000000
namespace Go.Proofs.YtdaoaedkjoknmaaGreat
open Go.RowKit Go.Deep Go.Proofs.YtdaoaedkjoknmaaGreat.Num

def RowY (w : World) (g : Nat) (l : List UInt8) : Prop := w.heap[g]? = some (.cells (cellsB l) 5 (0, 0))
theorem RowY.lt {w : World} {g : Nat} {l : List UInt8} (h : RowY w g l) : g < w.heap.size := (Array.getElem?_eq_some_iff.1 h).1
theorem RowY.alloc {w : World} {g : Nat} {l : List UInt8} (h : RowY w g l) (o : Obj) : RowY (w.alloc o) g l := (heap_alloc_old w o h.lt).trans h
theorem RowY.cell {w : World} {g : Nat} {l : List UInt8} (h : RowY w g l) (j : Nat) : w.cell? ⟨g, j, none⟩ = (cellsB l)[j]? := cell_of_row w g j _ _ _ h
def BoxK (w : World) (g : Nat) (o : Int) (d : ByteArray) : Prop := w.heap[g]? = some (.cells #[.int .i64 o, .string d] 140 (0, 0))
theorem BoxK.cells {w : World} {g : Nat} {o : Int} {d : ByteArray} (c : BoxK w g o d) : w.cell? ⟨g, 0, none⟩ = some (.int .i64 o) ∧ w.cell? ⟨g, 1, none⟩ = some (.string d) := ⟨cell_of_row w g 0 _ _ _ c, cell_of_row w g 1 _ _ _ c⟩
theorem BoxK.free {w : World} {g : Nat} {o : Int} {d : ByteArray} (c : BoxK w g o d) (k : Nat) : w.frozen? ⟨g, k, none⟩ = false := by
  unfold BoxK at c
  simp [World.frozen?, c]
theorem BoxK.new (w : World) (o : Int) (d : ByteArray) : BoxK (w.alloc (.cells #[.int .i64 o, .string d] 140)) w.heap.size o d := heap_alloc_new w _
theorem BoxK.lt {w : World} {g : Nat} {o : Int} {d : ByteArray} (c : BoxK w g o d) : g < w.heap.size := (Array.getElem?_eq_some_iff.1 c).1
theorem BoxK.below {w w' : World} {g K : Nat} {o : Int} {d : ByteArray} (c : BoxK w g o d) (h : Below K w w') (hg : g < K) : BoxK w' g o d := (h.block g hg).trans c
theorem BoxK.alloc {w : World} {g : Nat} {o : Int} {d : ByteArray} (c : BoxK w g o d) (ob : Obj) : BoxK (w.alloc ob) g o d := (heap_alloc_old w ob c.lt).trans c
theorem BoxK.set0 {w : World} {g : Nat} {o : Int} {d : ByteArray} (c : BoxK w g o d) (x : Int) : BoxK (w.setCell ⟨g, 0, none⟩ (.int .i64 x)) g x d := by
  unfold BoxK at c ⊢
  simp [World.setCell, Array.getElem?_modify, c]
theorem BoxK.set1 {w : World} {g : Nat} {o : Int} {d : ByteArray} (c : BoxK w g o d) (u : ByteArray) : BoxK (w.setCell ⟨g, 1, none⟩ (.string u)) g o u := by
  unfold BoxK at c ⊢
  simp [World.setCell, Array.getElem?_modify, c]

theorem make_bytes (n : Nat) (hn : n ≤ 281474976710656) (W : World) :
    (Instr.makeSlice 22 (.int .i64 (n : Int)) (.int .i64 (n : Int))).run Tryz.prog W = .ok (.slice (some ⟨W.heap.size, 0, none⟩) n n) (W.alloc (.cells (cellsB (List.replicate n 0)) 5)) := by
  obtain ⟨i0, hi, hz0, hz1, hz2⟩ := info_parts infoB
  have h := run_make (P := Tryz.prog) W 22 5 i0 (.int .u8 0) Tryz.underlying22 hi hz0 .i64 .i64 (n : Int) (n : Int) (by omega) (Int.le_refl _) (by rw [hz2]; omega) (by omega)
  rw [hz1, Nat.mul_one, Int.toNat_natCast] at h
  rw [h, show madeCells (Value.int .u8 0).cells n = cellsB (List.replicate n 0) from cellsB_made n]

theorem cellsB_put (L : List UInt8) (k : Nat) (t : ByteArray) : ((cellsB L).toList.take k ++ (t.data.toList.map fun x => Value.int .u8 (x.toNat : Int)) ++ (cellsB L).toList.drop (k + (t.data.toList.map fun x => Value.int .u8 (x.toNat : Int)).length)).toArray = cellsB (putL L k t) := by
  have hl : t.data.toList.length = t.size := by simp
  unfold cellsB putL
  rw [List.length_map, hl, List.map_append, List.map_append, List.map_take, List.map_drop, List.append_assoc]
theorem run_copyS (w : World) (ty : TypeId) (g k N M : Nat) (L : List UInt8) (t : ByteArray) (hL : L.length = k + N) (ht : t.size ≤ N) (hg : RowY w g L) :
    (Builtin.copy_ #[22, 9] ty #[.slice (some ⟨g, k, none⟩) N M, .string t]).run Tryz.prog w = .ok (goInt t.size) (w.setRow g (cellsB (putL L k t))) := by
  have hl : t.data.toList.length = t.size := by simp
  have hmin : Nat.min t.size N = t.size := Nat.min_eq_left ht
  have hst := run_storeCells_at (P := Tryz.prog) g k 5 (t.data.toList.map fun x => Value.int .u8 (x.toNat : Int)) 0 (cellsB L) w hg (by rw [cellsB_size, List.length_map, hl]; omega) (by
    intro v hv
    obtain ⟨x, _, rfl⟩ := List.mem_map.1 hv
    rfl)
  simp only [Nat.add_zero] at hst
  rw [cellsB_put] at hst
  have hz := Tryz.sizeOf5
  simp [Builtin.copy_, run_underlying Tryz.underlying22, Builtin.lenOf, Builtin.firstCells, hz, hmin]
  rw [List.take_of_length_le (by simp), hst]
  rfl

theorem step_copyS {ops : Array Oper} {o : Oper} {a : Act} {w : World} {K : Act → World → Prop} {Q : Exit → Act → World → Prop} {E : Prop}
    (hgd : o.guard = none) (d x : Operand) (ho : o.op = .call { callee := .builtin .copy, args := #[d, x], argTypes := #[22, 9] })
    (g k N M : Nat) (L : List UInt8) (hd : a.eval d = .slice (some ⟨g, k, none⟩) N M) (t : ByteArray) (hx : a.eval x = .string t) (hL : L.length = k + N) (ht : t.size ≤ N) (hg : RowY w g L)
    (h : ∀ w', RowY w' g (putL L k t) → Below g w w' → K (a.put o.dst (goInt t.size)) w') :
    if Region.wanted o (yielded ops a.tmps) = true then Oper.wp Tryz.prog o a w K Q else E := by
  have hw : Region.wanted o (yielded ops a.tmps) = true := by simp [Region.wanted, hgd]
  rw [if_pos hw]
  have hrun := run_copyS w o.type g k N M L t hL ht hg
  unfold Oper.wp
  simp [execOp, ho, resolve, invoke, builtin, hd, hx, hrun, Result.andThen]
  exact h _ (setRow_heap w g _ _ _ _ hg) (below_setRow (Below.refl g w) (Nat.le_refl _) _)

theorem ijoin_none (c : Ch) (A : Option Addr) (cap : Nat) (w : World) :
    Calls Tryz.prog 137 #[chV c, .slice A 0 cap] w fun e w' => e = .returned (chV c) ∧ Below w.heap.size w w' := by
  have HK2 := LH ((HeldK.start w c 140).alloc (.cells #[.int .i64 0, .string ⟨#[]⟩] 140))
  have X2 := BoxK.new (w.alloc (.cells (chC c) 140)) 0 ⟨#[]⟩
  rw [show (w.alloc (.cells (chC c) 140)).heap.size = w.heap.size + 1 by simp] at X2
  have HX2 := LH X2
  clear X2
  go_enter Tryz.func137, Tryz.ntmps137
  go_upto_region 2 with fail
  generalize (w.alloc (.cells (chC c) 140)).alloc (.cells #[.int .i64 0, .string ⟨#[]⟩] 140) = w2 at *
  obtain ⟨q0, q1⟩ := HK2.out.1
  obtain ⟨p0, p1⟩ := HX2.out.cells
  have pf := HX2.out.free
  go_wp2
  refine bodyPost_ret (results_cell_row rfl _ _ (w.heap.size + 1) _ _ _ _ rfl ((HX2.out.set0 c.off).set1 c.data) Tryz.underlying140 rfl (by kernel_rfl)) rfl ?_
  exact ⟨rfl, (HK2.out.2.2.setCell (p := ⟨_, _, _⟩) (by show w.heap.size ≤ w.heap.size + 1; omega) _).setCell (p := ⟨_, _, _⟩) (by show w.heap.size ≤ w.heap.size + 1; omega) _⟩

theorem ijoin_some (c : Ch) (R : List Ch) (A : Option Addr) (cap B : Nat) (w : World) (hB : B ≤ w.heap.size) (hr : Chs w B A R) (hn : R.length ≤ 1000000000) (h0 : 0 < R.length) (p : Int) (hp : -1 ≤ p) (hok : okR p (R.map ckR))
    (hc0 : 0 ≤ c.off) (hc1 : c.off + (c.data.size : Int) ≤ 4611686018427387903) (hcz : 0 < c.data.size) (hsz : c.data.size ≤ 4000000 ∧ ∀ x ∈ R, x.data.size ≤ 4000000)
    (h2 : ∀ x ∈ R, x.off ≤ c.off + (c.data.size : Int) ∧ c.off ≤ x.off + (x.data.size : Int)) :
    Calls Tryz.prog 137 #[chV c, .slice A R.length cap] w fun e w' => ∃ J, e = .returned (chV J) ∧ Joins c R J ∧ Below w.heap.size w w' := by
  have HR := LH hr
  have hl1 : R.length - 1 < R.length := by omega
  have hends := fun x hx => joins_ends hok h0 x hx
  have hin : ∀ x ∈ R, p < x.off ∧ x.off < x.off + (x.data.size : Int) ∧ x.off + (x.data.size : Int) ≤ 4611686018427387903 := fun x hx => okR.below hok (ckR x) (List.mem_map_of_mem hx)
  have hf := List.getElem_mem h0
  have hg := List.getElem_mem hl1
  obtain ⟨fi, hfi⟩ : ∃ fi, R[0] = fi := ⟨_, rfl⟩
  obtain ⟨la, hla⟩ : ∃ la, R[R.length - 1] = la := ⟨_, rfl⟩
  obtain ⟨b0, o0, hA, hb0, c0, _⟩ := hr.cells 0 h0
  obtain ⟨b1, o1, hA1, _, d0, d1⟩ := hr.cells (R.length - 1) hl1
  subst hA
  obtain ⟨rfl, rfl⟩ : b0 = b1 ∧ o0 = o1 := by injection hA1 with hA1; injection hA1 with e1 e2 _; exact ⟨e1, e2⟩
  rw [hfi] at c0 hf
  rw [hla] at d0 d1 hg
  simp only [hfi, hla] at hends
  rw [Nat.zero_mul, Nat.add_zero] at c0
  have hif := hin fi hf
  have hil := hin la hg
  have h2f := h2 fi hf
  have h2l := h2 la hg
  have hsf := hsz.2 fi hf
  have hsl := hsz.2 la hg
  have hefl := hends la hg
  have hcs := hsz.1
  obtain ⟨beg, hmin⟩ : ∃ beg : Int, (if fi.off < c.off then fi.off else c.off) = beg := ⟨_, rfl⟩
  obtain ⟨fin, hmax⟩ : ∃ fin : Int, (if c.off + (c.data.size : Int) < la.off + (la.data.size : Int) then la.off + (la.data.size : Int) else c.off + (c.data.size : Int)) = fin := ⟨_, rfl⟩
  have hb1 : beg ≤ c.off ∧ beg ≤ fi.off ∧ 0 ≤ beg ∧ (beg = c.off ∨ beg = fi.off) := by rw [← hmin]; split <;> omega
  have hf1 : c.off + (c.data.size : Int) ≤ fin ∧ la.off + (la.data.size : Int) ≤ fin ∧ fin ≤ 4611686018427387903 ∧ (fin = c.off + (c.data.size : Int) ∨ fin = la.off + (la.data.size : Int)) := by rw [← hmax]; split <;> omega
  obtain ⟨N, hN⟩ : ∃ N : Nat, fin - beg = (N : Int) := ⟨(fin - beg).toNat, by omega⟩
  have hNs : N ≤ 20000000 := by omega
  obtain ⟨k, hk⟩ : ∃ k : Nat, c.off - beg = (k : Int) := ⟨(c.off - beg).toNat, by omega⟩
  have hkN : k + c.data.size ≤ N := by omega
  have HJ : Hid (∀ M, FillI c beg N R M → Joins c R ⟨beg, ⟨M.toArray⟩⟩) := LH fun M hM => hM.joins ⟨hb1.1, fun x hx => by have := (hends x hx).1; omega⟩ (hb1.2.2.2.imp id fun e => ⟨fi, hf, e⟩) ⟨by omega, fun x hx => by have := (hends x hx).2; omega⟩ (by rcases hf1.2.2.2 with e | e; exact Or.inl (by omega); exact Or.inr ⟨la, hg, by omega⟩)
  have HF0 : Hid (FillI c beg N [] (putL (List.replicate N 0) k c.data)) := LH (by
    have h := FillI.start c beg N hb1.2.2.1 hb1.1 (by omega)
    rwa [show (c.off - beg).toNat = k by omega] at h)
  have HST : Hid (∀ j (hj : j < R.length) M, FillI c beg N (R.take j) M → ∃ i : Nat, R[j].off - beg = (i : Int) ∧ i + R[j].data.size ≤ N ∧ 0 < R[j].data.size ∧ M.length = N ∧ FillI c beg N (R.take (j + 1)) (putL M i R[j].data)) := LH fun j hj M hM => by
    have hm := List.getElem_mem hj
    have h3 := hends R[j] hm
    have h4 := hin R[j] hm
    refine ⟨(R[j].off - beg).toNat, by omega, by omega, by omega, hM.len, ?_⟩
    rw [List.take_succ_eq_append_getElem hj]
    refine hM.step R[j] p hp ?_ hb1.2.2.1 (by omega) (by omega)
    rw [← List.take_succ_eq_append_getElem hj]
    have h5 := hok
    rw [← List.take_append_drop (j + 1) R, List.map_append] at h5
    exact h5.prefix
  have HSR : Hid (∀ x ∈ R, 0 ≤ x.off ∧ x.off + (x.data.size : Int) ≤ 4611686018427387903) := LH fun x hx => by have := hin x hx; omega
  have HEC := LH fun W => iendc c W (by omega)
  have HEL := LH fun W => iendc la W (by omega)
  have HMX := LH hmax
  have HW1 : Hid (wrap64 (fin - beg) = (N : Int)) := LH (by rw [hN]; unfold wrap64; omega)
  have HW2 : Hid (IntKind.i64.wrap (c.off - beg) = (k : Int)) := LH (by rw [IntKind.wrap_i64]; omega)
  have hz : ((R.length : Int) == 0) = false := by
    have : (R.length : Int) ≠ 0 := by omega
    simpa using this
  obtain ⟨t, ht⟩ : ∃ t, R.length - 1 = t := ⟨_, rfl⟩
  have HWT : Hid (IntKind.i64.wrap ((R.length : Int) - 1) = (t : Int)) := LH (by rw [IntKind.wrap_i64]; omega)
  have htR : t < R.length := by omega
  rw [ht] at d0 d1
  have hc0p : 0 < c.data.size := hcz
  have HC2 : Hid (∀ W, Below w.heap.size w W → W.cell? ⟨b0, o0, none⟩ = some (.int .i64 fi.off) ∧ W.cell? ⟨b0, o0 + t * 2, none⟩ = some (.int .i64 la.off) ∧ W.cell? ⟨b0, o0 + t * 2 + 1, none⟩ = some (.string la.data)) := LH fun W h => ⟨(h.cell (p := ⟨b0, o0, none⟩) (by show b0 < _; omega)).trans c0, (h.cell (p := ⟨b0, o0 + t * 2, none⟩) (by show b0 < _; omega)).trans d0, (h.cell (p := ⟨b0, o0 + t * 2 + 1, none⟩) (by show b0 < _; omega)).trans d1⟩
  clear hr hok hends hin hf hg c0 d0 d1 hif hil h2f h2l hsf hsl hefl hcs hb1 hf1 hN hk h2 hsz hA1 hmax hfi hla ht hc0 hc1 hcz hl1
  have HK2 := LH ((HeldK.start w c 140).alloc (.cells #[.int .i64 0, .string ⟨#[]⟩] 140))
  have X2 := BoxK.new (w.alloc (.cells (chC c) 140)) 0 ⟨#[]⟩
  rw [show (w.alloc (.cells (chC c) 140)).heap.size = w.heap.size + 1 by simp] at X2
  have HX2 := LH X2
  clear X2
  go_enter Tryz.func137, Tryz.ntmps137
  go_upto_region 3 with fail
  generalize (w.alloc (.cells (chC c) 140)).alloc (.cells #[.int .i64 0, .string ⟨#[]⟩] 140) = w2 at *
  obtain ⟨q0, q1⟩ := HK2.out.1
  obtain ⟨c0, d0, d1⟩ := HC2.out w2 HK2.out.2.2
  go_region
  clear hmin
  go_upto_region 4 with fail
  go_cut [6] (fun v wx => v = .int .i64 fin ∧ Below w2.heap.size w2 wx)
  case first =>
    have hmax := HMX.out
    have hwt := HWT.out
    have ht0 : (0 : Int) ≤ (t : Int) := by omega
    have ht1 : (t : Int) < (R.length : Int) := by omega
    have HSS : Hid (∀ W, Below w2.heap.size w2 W → W.cell? ⟨w.heap.size, 0, none⟩ = some (.int .i64 c.off) ∧ W.cell? ⟨w.heap.size, 1, none⟩ = some (.string c.data) ∧ W.cell? ⟨b0, o0 + t * 2, none⟩ = some (.int .i64 la.off) ∧ W.cell? ⟨b0, o0 + t * 2 + 1, none⟩ = some (.string la.data)) := LH fun W h => ⟨(HK2.out.next h).1.1, (HK2.out.next h).1.2, (HC2.out W (HK2.out.next h).2.2).2.1, (HC2.out W (HK2.out.next h).2.2).2.2⟩
    have HT := LH (Below.refl w2.heap.size w2).drew.drew
    have HS := LH (HSS.out _ HT.out)
    clear HJ HF0 HST HSR HW1 HW2 c0 HR
    go_region_held3 (fun W => W.cell? ⟨w.heap.size, 0, none⟩ = some (.int .i64 c.off) ∧ W.cell? ⟨w.heap.size, 1, none⟩ = some (.string c.data) ∧ W.cell? ⟨b0, o0 + t * 2, none⟩ = some (.int .i64 la.off) ∧ W.cell? ⟨b0, o0 + t * 2 + 1, none⟩ = some (.string la.data)) (first | with_reducible exact HS.out) (first | (go_at_call 135; refine (HEC.out _).mono ?_; rintro e wn ⟨rfl, hbn⟩; have HT := LH (HT.out.trans (hbn.mono HT.out.size)); have HS := LH (HSS.out _ HT.out); clear hbn) | (go_at_call 135; refine (HEL.out _).mono ?_; rintro e wn ⟨rfl, hbn⟩; have HT := LH (HT.out.trans (hbn.mono HT.out.size)); have HS := LH (HSS.out _ HT.out); clear hbn))
    all_goals (
      go_wp2
      go_meet
      exact ⟨rfl, HT.out⟩)
  case rest =>
    obtain ⟨rfl, hbc⟩ := hcut
    have HBC := LH hbc
    have HK3 := LH (HK2.out.next hbc)
    have HX3 := LH (HX2.out.below hbc HX2.out.lt)
    have hw1 := HW1.out
    have hmk := make_bytes N (by omega) wc
    have HB3 := LH HK3.out.2.2
    have hx3 : w.heap.size + 1 < wc.heap.size := HX3.out.lt
    have HY4 : Hid (RowY (wc.alloc (.cells (cellsB (List.replicate N 0)) 5)) wc.heap.size (List.replicate N 0)) := LH (heap_alloc_new wc _)
    have HK4 := LH (HK3.out.alloc (.cells (cellsB (List.replicate N 0)) 5))
    have HX4 := LH (HX3.out.alloc (.cells (cellsB (List.replicate N 0)) 5))
    clear hbc q0 q1 c0 d0 d1 HK2 HX2 HEC HEL HMX HC2 HK3 HX3 HB3
    go_upto_region 6 with fail
    clear hmk hw1
    generalize wc.alloc (.cells (cellsB (List.replicate N 0)) 5) = w4 at *
    generalize wc.heap.size = g at *
    obtain ⟨q0, q1⟩ := HK4.out.1
    have hw2 := HW2.out
    have hk0 : (0 : Int) ≤ (k : Int) := by omega
    have hk1 : (k : Int) ≤ (N : Int) := by omega
    have hne : ¬ N = k := by omega
    have HL : Hid ((List.replicate N (0 : UInt8)).length = k + (N - k)) := LH (by rw [List.length_replicate]; omega)
    have HLS : Hid (c.data.size ≤ N - k) := LH (by omega)
    have HYd : Hid (RowY w4.drew g (List.replicate N 0)) := LH HY4.out
    go_cut [] (fun wx => RowY wx g (putL (List.replicate N 0) k c.data) ∧ Below g w4 wx)
    case first =>
      clear HJ HF0 HST HSR HW1 HW2 HR
      go_region_law (refine step_copyS rfl (.tmp 40) (.tmp 42) rfl g k (N - k) (N - k) (List.replicate N 0) rfl c.data rfl HL.out HLS.out HYd.out ?_; intro w5 hr5 hb5)
      all_goals (
        go_wp2
        go_meet
        exact ⟨hr5, (Below.refl g w4).drew.trans hb5⟩)
    case rest =>
      obtain ⟨hy5, hb5⟩ := hcut
      have HY5 := LH hy5
      have HX5 := LH (HX4.out.below hb5 (by omega))
      have HB5 := LH (HK4.out.2.2.trans (hb5.mono (by omega)))
      clear hy5 hb5 q0 q1 hw2 hk0 hk1 hne HL HLS HYd HY4 HX4 HK4 HW1 HW2 HWT
      generalize putL (List.replicate N 0) k c.data = M0 at *
      go_wp2
      go_loopw [46] (fun i wr => ∃ (j : Nat) (M : List UInt8), j ≤ R.length ∧ i = .int .i64 j ∧ FillI c beg N (R.take j) M ∧ RowY wr g M ∧ BoxK wr (w.heap.size + 1) 0 ⟨#[]⟩ ∧ Below w.heap.size w wr) (fun i _ => R.length - (intOf i).toNat)
      case atStart => exact ⟨0, M0, Nat.zero_le _, rfl, HF0.out, HY5.out, HX5.out, HB5.out⟩
      case round =>
        obtain ⟨j, M, hj, rfl, hfm, hy, hx, hb⟩ := hrel
        have HFM := LH hfm
        have HY := LH hy
        have HX := LH hx
        have HB := LH hb
        clear hfm hy hx hb HY5 HX5 HB5 HF0
        by_cases hlt : j < R.length
        · obtain ⟨i, hi1, hi2, hi3, hi4, hi5⟩ := HST.out j hlt M HFM.out
          obtain ⟨b2, o2, hA2, hbB2, c0, c1⟩ := (HR.out.below hB HB.out).cells j hlt
          obtain ⟨rfl, rfl⟩ : b0 = b2 ∧ o0 = o2 := by injection hA2 with hA2; injection hA2 with e1 e2 _; exact ⟨e1, e2⟩
          have hse := HSR.out R[j] (List.getElem_mem hlt)
          have HF5 := LH hi5
          generalize R[j] = x at *
          have HWI : Hid (IntKind.i64.wrap (x.off - beg) = (i : Int)) := LH (by rw [hi1, IntKind.wrap_i64]; omega)
          have HL : Hid (M.length = i + (N - i)) := LH (by omega)
          have HLS : Hid (x.data.size ≤ N - i) := LH (by omega)
          have hk0 : (0 : Int) ≤ (i : Int) := by omega
          have hk1 : (i : Int) ≤ (N : Int) := by omega
          have hne : ¬ N = i := by omega
          have hg1 : g < wr.heap.size := HY.out.lt
          have HKA := LH (box2 wr (.int .i64 x.off) (.string x.data) 140)
          have HYA := LH (HY.out.alloc (.cells (chC x) 140))
          have HXA := LH (HX.out.alloc (.cells (chC x) 140))
          have HBA := LH (HB.out.alloc HB.out.size (.cells (chC x) 140))
          clear hi1 hi2 hi3 hi4 hi5 hse
          go_upto_region 10 with fail
          clear c0 c1
          generalize wr.alloc (.cells (chC x) 140) = wa at *
          generalize wr.heap.size = gb at *
          obtain ⟨q0, q1⟩ := HKA.out
          have hwi := HWI.out
          have HYd : Hid (RowY wa.drew g M) := LH HYA.out
          go_region_law (refine step_copyS rfl (.tmp 55) (.tmp 57) rfl g i (N - i) (N - i) M rfl x.data rfl HL.out HLS.out HYd.out ?_; intro w5 hr5 hb5)
          all_goals (
            have HR5 := LH hr5
            have hb6 := (Below.refl g wa).drew.trans hb5
            have HX6 := LH (HXA.out.below hb6 (by omega))
            have HB6 := LH (HBA.out.trans (hb6.mono (by omega)))
            clear hr5 hb5 hb6 hwi
            go_wp2
            go_roundw
            case rel => exact ⟨j + 1, _, hlt, by go_num, HF5.out, HR5.out, HX6.out, HB6.out⟩
            case measure => simp [intOf]; omega)
        · obtain rfl : j = R.length := by omega
          have HT : Hid (R.take R.length = R) := LH (List.take_of_length_le (Nat.le_refl _))
          rw [HT.out] at HFM
          have HJ2 := LH (HJ.out M HFM.out)
          have hcv := conv_row wr g M N (fun q _ => HY.out.cell q)
          rw [HFM.out.len] at hcv
          obtain ⟨p0, p1⟩ := HX.out.cells
          have pf := HX.out.free
          go_wp2
          refine bodyPost_ret (results_cell_row rfl _ _ (w.heap.size + 1) _ _ _ _ rfl ((HX.out.set0 beg).set1 ⟨M.toArray⟩) Tryz.underlying140 rfl (by kernel_rfl)) rfl ?_
          exact ⟨⟨beg, ⟨M.toArray⟩⟩, rfl, HJ2.out, (HB.out.setCell (p := ⟨_, _, _⟩) (by show w.heap.size ≤ w.heap.size + 1; omega) _).setCell (p := ⟨_, _, _⟩) (by show w.heap.size ≤ w.heap.size + 1; omega) _⟩
end Go.Proofs.YtdaoaedkjoknmaaGreat
