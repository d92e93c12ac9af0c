/-
  What slices.Backward of ranges yields, and what impl.linkRanges returns.
-/
import Derived.Test.YtjgabiklmloogaaDoorILink
import Derived.RangeFuncNested
import Derived.RangeFuncBound
import Derived.RangeFuncCalls
import Derived.RangeFuncLeaves
import Derived.Shelf.Abstract
import Derived.Shelf.RegionOpen
import Derived.OwnWalkIn
import Derived.TacticsInMore
import Derived.LoopNIn
import Derived.LoopIn
namespace Go.Proofs.YtjgabiklmloogaaDoor
open Go.RowKit Go.Deep Go.Proofs.YtjgabiklmloogaaDoor.Num

attribute [local go_sem] Oper.semAt_some

/-- What has come when k rounds are over. -/
def upto {α : Type} (f : Nat → α) (k : Nat) : List α := (List.range k).map f
theorem upto_succ {α : Type} (f : Nat → α) (k : Nat) : upto f (k + 1) = upto f k ++ [f k] := by simp [upto, List.range_succ]
theorem upto_len {α : Type} (f : Nat → α) (k : Nat) : (upto f k).length = k := by simp [upto]
/-- The k-th pair from the end. -/
def bwP (l : List Rg) (k : Nat) : Nat × Rg := (l.length - 1 - k, l[l.length - 1 - k]?.getD (0, 0))
theorem bwP_all (l : List Rg) : ((upto (bwP l) l.length).map Prod.snd).reverse = l := by
  apply List.ext_getElem
  · simp [upto]
  · intro i h1 h2
    simp [upto, bwP]
    rw [show l.length - 1 - (l.length - 1 - i) = i from by omega]
    simp [h2]
/-- What lay below n₀ lies as it lay, block h aside. -/
structure BB (n₀ h : Nat) (W W' : World) : Prop where
  size : W.heap.size ≤ W'.heap.size
  block : ∀ k, k < n₀ → k ≠ h → W'.heap[k]? = W.heap[k]?
theorem BB.refl (n₀ h : Nat) (W : World) : BB n₀ h W W := ⟨Nat.le_refl _, fun _ _ _ => rfl⟩
theorem BB.trans {n₀ h : Nat} {A B C : World} (x : BB n₀ h A B) (y : BB n₀ h B C) : BB n₀ h A C := ⟨Nat.le_trans x.size y.size, fun k h1 h2 => (y.block k h1 h2).trans (x.block k h1 h2)⟩
theorem BB.put {n₀ h : Nat} {w : World} (hn : n₀ ≤ w.heap.size) (W : World) (y : Nat) (o o' : Obj) (hl : w.heap.size ≤ y) (_ : W.heap[y]? = some o) (_ : o.isCells = false) (_ : o.isWalk = false) : BB n₀ h W (W.putObj y o') :=
  ⟨(grownBy_putObj' W y o').size, fun k hk _ => World.putObj_heap_other (by omega)⟩
theorem BB.of {n₀ h : Nat} {W W' : World} (hb : Below n₀ W W') : BB n₀ h W W' := ⟨hb.size, fun k hk _ => hb.block k hk⟩
theorem BB.setCell {n₀ h k : Nat} {W W' : World} (hb : BB n₀ h W W') (v : Value) : BB n₀ h W (W'.setCell ⟨h, k, none⟩ v) :=
  ⟨by simpa [World.setCell] using hb.size, fun j h1 h2 => (Below.heap_setCell W' ⟨h, k, none⟩ v j h2).trans (hb.block j h1 h2)⟩

set_option maxRecDepth 100000 in
set_option maxHeartbeats 2000000 in
/-- slices.Backward's closure. -/
theorem bwd1_in (F : Fence) (n : Nat) (hf : F.fn 56) (hro : F.round = none) (hn : 1 ≤ n) (y Bs n₀ h : Nat) (l : List Rg) (A : Option Addr) (cap : Nat) (hlen : l.length ≤ 1000000000) (hBs : Bs < n₀) (hBh : Bs ≠ h) (hh : h ≤ n₀) (J Jx : List (Nat × Rg) → World → Prop)
    (hY : ∀ pre x W, J pre W → pre.length < l.length → YieldAt F (n - 1) Tryd.prog y #[.int .i64 (x.1 : Int), rgV x.2] W fun e W' =>
      (e = .returned (.bool true) ∧ J (pre ++ [x]) W' ∧ BB n₀ h W W') ∨ (e = .returned (.bool false) ∧ Jx (pre ++ [x]) W'))
    (W : World) (hc : W.cell? ⟨Bs, 0, none⟩ = some (.slice A l.length cap)) (hr : Rgs W h A l) (h0 : J [] W) :
    CallsIn F n Tryd.prog 56 #[.func (.yield y) #[] #[], .pointer (some ⟨Bs, 0, none⟩)] W fun e W' => (∃ v, e = .returned v) ∧
      ((∃ ys, ys = upto (bwP l) l.length ∧ J ys W') ∨ (∃ pre, True ∧ Jx pre W')) := by
  have hw0 : IntKind.i64.wrap ((l.length : Int) - 1) = (l.length : Int) - 1 := by rw [IntKind.wrap_i64]; omega
  have HR := Lib.hid hr
  clear hr
  refine callsIn_of_wp Tryd.func56 rfl hf ?_ hro
  simp only [Tryd.ntmps56, List.size_toArray, List.length_cons, List.length_nil, Nat.reduceAdd, Nat.reduceSub, Array.replicate_succ, Array.replicate_zero, List.push_toArray, List.append_toArray, List.nil_append, List.cons_append]
  gi_wp2
  gi_loopw [3] (fun i wr => ∃ m : Nat, m ≤ l.length ∧ i = .int .i64 ((m : Int) - 1) ∧ J (upto (bwP l) (l.length - m)) wr ∧ BB n₀ h W wr)
    (fun i _ => (intOf i + 1).toNat)
  case atStart => exact ⟨l.length, Nat.le_refl _, rfl, by rw [Nat.sub_self]; exact h0, BB.refl _ _ _⟩
  case round =>
    obtain ⟨m, hm, rfl, hJs, hnx⟩ := hrel
    have hcx : wr.cell? ⟨Bs, 0, none⟩ = some (.slice A l.length cap) := (World.cell?_of_block (hnx.block Bs hBs hBh)).trans hc
    cases m with
    | zero =>
      rw [show (((0 : Nat) : Int) - 1) = -1 from rfl]
      rw [Nat.sub_zero] at hJs
      gi_wp2
      go_end0
      exact ⟨⟨_, rfl⟩, .inl ⟨_, rfl, hJs⟩⟩
    | succ m =>
      rw [show (((m + 1 : Nat) : Int) - 1) = (m : Int) from by omega]
      have hlt : m < l.length := by omega
      have HRW := Lib.hid (HR.out.keep (w' := wr) fun k hk => hnx.block k (by omega) (by omega))
      obtain ⟨b, off, rfl, hbB, c1, c2⟩ := HRW.out m hlt
      have hx : bwP l (l.length - (m + 1)) = (m, l[m]) := by
        unfold bwP
        rw [show l.length - 1 - (l.length - (m + 1)) = m from by omega]
        simp [hlt]
      have hu : upto (bwP l) (l.length - m) = upto (bwP l) (l.length - (m + 1)) ++ [(m, l[m])] := by
        rw [← hx, ← upto_succ]
        congr 1
        omega
      have HU := Lib.hid hu
      clear hu hx
      generalize l[m] = x at *
      obtain ⟨fn, tmps, assign, body, hy, hR⟩ := hY _ (m, x) wr hJs (by rw [upto_len]; omega)
      dsimp only at hy
      have hw1 : IntKind.i64.wrap ((m : Int) - 1) = (m : Int) - 1 := by rw [IntKind.wrap_i64]; omega
      gi_wp2
      refine hR.mono ?_
      rintro e W3 (⟨rfl, hJ3, hk3⟩ | ⟨rfl, hJx3⟩)
      · gi_wp2
        go_roundw
        case rel => exact ⟨m, by omega, rfl, by rw [HU.out]; exact hJ3, hnx.trans hk3⟩
        case measure => simp [intOf]
      · gi_wp2
        refine bodyPost_ret (results_none rfl _ _ _) rfl ?_
        exact ⟨⟨_, rfl⟩, .inr ⟨_, trivial, hJx3⟩⟩

set_option maxHeartbeats 1000000 in
/-- slices.Backward -/
theorem bwd_in (F : Fence) (n : Nat) (hf : F.fn 50) (hro : F.round = none) (a : Option Addr) (len cap : Nat) (w : World) :
    CallsIn F n Tryd.prog 50 #[.slice a len cap] w fun e w' => e = .returned (.func (.func 56) #[] #[.pointer (some ⟨w.heap.size, 0, none⟩)]) ∧ w' = w.alloc (.cells #[.slice a len cap] 24) := by
  refine callsIn_of_wp Tryd.func50 rfl hf ?_ hro
  simp only [Tryd.ntmps50, List.size_toArray, List.length_cons, List.length_nil, Nat.reduceAdd, Nat.reduceSub, Array.replicate_succ, Array.replicate_zero, List.push_toArray, List.append_toArray, List.nil_append, List.cons_append]
  gi_wp2
  go_ret
  exact ⟨rfl, rfl⟩

theorem bwd_stops (F : Fence) (n : Nat) (hf : F.fn 56) (hro : F.round = none) (hn : 1 ≤ n) (Bs n₀ h : Nat) (l : List Rg) (A : Option Addr) (cap : Nat) (hlen : l.length ≤ 1000000000) (w : World) (hBs : Bs < n₀) (hBh : Bs ≠ h) (hh : h ≤ n₀) (hn₀ : n₀ ≤ w.heap.size)
    (hc : w.cell? ⟨Bs, 0, none⟩ = some (.slice A l.length cap)) (hr : Rgs w h A l) :
    SeqStopsK F n Tryd.prog 56 #[.pointer (some ⟨Bs, 0, none⟩)] (fun x : Nat × Rg => #[Value.int .i64 (x.1 : Int), rgV x.2]) (BB n₀ h) (fun ys => ys = upto (bwP l) l.length)
      (fun _ => True) l.length w := fun y J Jx W hW _ _ hY h0 =>
  bwd1_in F n hf hro hn y Bs n₀ h l A cap hlen hBs hBh hh J Jx hY W ((hW.cell (p := ⟨Bs, 0, none⟩) (by show Bs < _; omega)).trans hc) (hr.below (by omega) hW) h0

/-- From p on lie these nodes, each a block of its own. -/
def Nodes (w : World) : Option Addr → List (Nat × Rg) → Prop
  | p, [] => p = none
  | p, (b, x) :: L => p = some ⟨b, 0, none⟩ ∧ ∃ q, w.heap[b]? = some (.cells #[.int .i64 x.1, .int .i64 x.2, .pointer q] 54 (0, 0)) ∧ Nodes w q L
theorem Nodes.kept {w w' : World} {L : List (Nat × Rg)} : ∀ {p}, Nodes w p L → (∀ b ∈ L.map (·.1), ∀ cs t fr, w.heap[b]? = some (.cells cs t fr) → w'.heap[b]? = w.heap[b]?) → Nodes w' p L := by
  induction L with
  | nil => intro p h _; exact h
  | cons y L ih =>
    obtain ⟨b, x⟩ := y
    intro p h hb
    obtain ⟨h1, q, h2, h3⟩ := h
    exact ⟨h1, q, (hb b (by simp) _ _ _ h2).trans h2, ih h3 fun c hc => hb c (by simp only [List.map_cons, List.mem_cons]; exact .inr hc)⟩
theorem Nodes.list {w : World} {L : List (Nat × Rg)} : ∀ {p}, Nodes w p L → ListAt w p L := by
  induction L with
  | nil => intro p h; exact h
  | cons y L ih =>
    obtain ⟨b, x⟩ := y
    intro p h
    obtain ⟨h1, q, h2, h3⟩ := h
    exact ⟨h1, cell_of_row w b 0 _ _ _ h2, cell_of_row w b 1 _ _ _ h2, q, cell_of_row w b 2 _ _ _ h2, ih h3⟩
theorem Nodes.free {w : World} {L : List (Nat × Rg)} : ∀ {p}, Nodes w p L → ∀ b ∈ L.map (·.1), ∀ k, w.frozen? ⟨b, k, none⟩ = false := by
  induction L with
  | nil => intro p _ b hb; cases hb
  | cons y L ih =>
    obtain ⟨b, x⟩ := y
    intro p h c hc k
    obtain ⟨h1, q, h2, h3⟩ := h
    rcases List.mem_cons.1 (by simpa using hc : c ∈ b :: L.map (·.1)) with rfl | hc
    · exact frozen_cells h2 k
    · exact ih h3 c hc k
/-- What the loop has made: the head's cell and the nodes. -/
def MadeP (h base : Nat) (rs : List Rg) (W : World) (p : Option Addr) (L : List (Nat × Rg)) : Prop := Boxed W h 49 (.pointer p) ∧ Nodes W p L ∧ L.map (·.2) = rs ∧ (L.map (·.1)).Nodup ∧ ∀ b ∈ L.map (·.1), base ≤ b ∧ b < W.heap.size
def Made (h base : Nat) (rs : List Rg) (W : World) : Prop := ∃ p L, MadeP h base rs W p L
theorem MadeP.kept {h base : Nat} {rs : List Rg} {W W' : World} {row : Option Nat} {p : Option Addr} {L : List (Nat × Rg)} (m : MadeP h base rs W p L) (hg : W.grownBy W' row) (hr : ∀ r, row = some r → ∃ o : Obj, W.heap[r]? = some o ∧ o.isCells = false) : MadeP h base rs W' p L := by
  obtain ⟨h1, h2, h3, h4, h5⟩ := m
  have hk : ∀ b cs t fr, W.heap[b]? = some (Obj.cells cs t fr) → W'.heap[b]? = W.heap[b]? := fun b cs t fr hb =>
    hg.block b (Array.getElem?_eq_some_iff.1 hb).1 fun e => by
      obtain ⟨o, ho, hc⟩ := hr b e.symm
      rw [hb] at ho
      cases ho
      cases hc
  exact ⟨(hk h _ _ _ h1).trans h1, h2.kept fun b _ cs t fr hb => hk b cs t fr hb, h3, h4, fun b hb => ⟨(h5 b hb).1, Nat.lt_of_lt_of_le (h5 b hb).2 hg.size⟩⟩
theorem Made.kept {h base : Nat} {rs : List Rg} {W W' : World} {row : Option Nat} (m : Made h base rs W) (hg : W.grownBy W' row) (hr : ∀ r, row = some r → ∃ o : Obj, W.heap[r]? = some o ∧ o.isCells = false) : Made h base rs W' := by
  obtain ⟨p, L, m⟩ := m
  exact ⟨p, L, m.kept hg hr⟩
theorem MadeP.cons {h base : Nat} {rs : List Rg} {W : World} {p : Option Addr} {L : List (Nat × Rg)} (m : MadeP h base rs W p L) (x : Rg) (hb : base ≤ W.heap.size) (hh : h < base) :
    Made h base (x :: rs) ((W.alloc (.cells #[.int .i64 x.1, .int .i64 x.2, .pointer p] 54)).setCell ⟨h, 0, none⟩ (.pointer (some ⟨W.heap.size, 0, none⟩))) := by
  obtain ⟨h1, h2, h3, h4, h5⟩ := m
  refine ⟨some ⟨W.heap.size, 0, none⟩, (W.heap.size, x) :: L, (h1.alloc _).set _, ⟨rfl, p, ?_, h2.kept fun b hb cs t fr _ => ?_⟩, by rw [← h3]; rfl, ?_, fun b hb => ?_⟩
  · exact (Below.heap_setCell _ ⟨h, 0, none⟩ _ _ (by show W.heap.size ≠ h; omega)).trans (heap_alloc_new W _)
  · have := h5 b hb
    exact (Below.heap_setCell _ ⟨h, 0, none⟩ _ _ (by show b ≠ h; omega)).trans (Below.heap_alloc W _ b this.2)
  · refine List.nodup_cons.2 ⟨fun hm => ?_, h4⟩
    have := (h5 W.heap.size hm).2
    omega
  · rcases List.mem_cons.1 (by simpa using hb : b ∈ W.heap.size :: L.map (·.1)) with rfl | hb
    · exact ⟨by assumption, by simp [World.setCell]⟩
    · have := h5 b hb
      refine ⟨this.1, ?_⟩
      simp [World.setCell]
      omega

set_option maxRecDepth 100000 in
set_option maxHeartbeats 4000000 in
/-- impl.linkRanges, at the wide fence -/
theorem ilinks_in (l : List Rg) (A : Option Addr) (cap B : Nat) (w : World) (hB : B ≤ w.heap.size) (hr : Rgs w B A l) (hn : l.length ≤ 1000000000) :
    CallsIn Fence.wide 6 Tryd.prog 32 #[.slice A l.length cap] w fun e w' => ∃ p L, e = .returned (.pointer p) ∧ Nodes w' p L ∧ L.map (·.2) = l ∧ (L.map (·.1)).Nodup ∧ (∀ b ∈ L.map (·.1), w.heap.size ≤ b ∧ b < w'.heap.size) ∧ Below w.heap.size w w' := by
  have h1 : 1 ≤ 6 := by omega
  refine callsIn_of_wp_marks Tryd.func32 rfl trivial ?_ rfl
  simp only [Tryd.ntmps32, List.size_toArray, List.length_cons, List.length_nil, Nat.reduceAdd, Nat.reduceSub, Array.replicate_succ, Array.replicate_zero, List.push_toArray, List.append_toArray, List.nil_append, List.cons_append]
  gi_wp2_with (refine ⟨trivial, ?_⟩; gi_at_call 50; refine (bwd_in Fence.wide _ trivial rfl _ _ _ _).mono ?_; rintro e w' ⟨rfl, rfl⟩)
  have bH := (Boxed.new w 49 (.pointer none)).alloc (.cells #[.slice A l.length cap] 24)
  have bS := Boxed.new (w.alloc (.cells #[.pointer none] 49)) 24 (.slice A l.length cap)
  rw [World.size_alloc] at bS
  have hB0 : Below w.heap.size w ((w.alloc (.cells #[.pointer none] 49)).alloc (.cells #[.slice A l.length cap] 24)) := ((Below.refl _ w).alloc (Nat.le_refl _) _).alloc (by simp) _
  have hsz : ((w.alloc (.cells #[.pointer none] 49)).alloc (.cells #[.slice A l.length cap] 24)).heap.size = w.heap.size + 2 := by simp
  have hr0 := (hr.below hB hB0).up hB
  obtain ⟨W0, hW0⟩ : ∃ W0, (w.alloc (.cells #[.pointer none] 49)).alloc (.cells #[.slice A l.length cap] 24) = W0 := ⟨_, rfl⟩
  rw [hW0] at bH bS hB0 hsz hr0 ⊢
  clear hW0 hr
  refine wpIn_rangeFunc_ownH rfl h1 (gf := 56) (lb := #[.pointer (some ⟨w.heap.size + 1, 0, none⟩)]) rfl trivial (enters_of Tryd.func56 (by kernel_rfl) rfl)
    (bwd_stops Fence.wide (6 - 1) trivial rfl (by omega) (w.heap.size + 1) W0.heap.size w.heap.size l A cap hn W0 (by omega) (by omega) (by omega) (Nat.le_refl _) bS.cell hr0) (fun h k => BB.trans h k) (BB.put (Nat.le_refl _)) (Below.refl _ _) (fun _ => rfl)
    (fun (pre : List (Nat × Rg)) W => Made w.heap.size W0.heap.size ((pre.map Prod.snd).reverse) W ∧ Below w.heap.size w W ∧ W0.heap.size ≤ W.heap.size)
    (fun _ _ _ => False)
    (fun s X Y row hs hg hr => ⟨hs.1.kept hg fun r e => (hr r e).2, ownFrom_below (β := Unit) (n₀ := w.heap.size) (B := W0.heap.size) (w₀ := w) (Nat.le_refl _) (by omega) () X Y row hs.2.1 hg hr, Nat.le_trans hs.2.2 hg.size⟩)
    (fun _ _ _ _ _ hs _ _ => hs)
    ⟨⟨none, [], bH, rfl, rfl, by simp, fun b hb => by cases hb⟩, hB0, Nat.le_refl _⟩
    (fun x a' W => ∃ Bx, w.heap.size + 1 < Bx ∧ Box W Bx x.2 ∧ a' = { tmps := #[.slice A l.length cap, undef, .pointer none, .pointer (some ⟨w.heap.size, 0, none⟩), undef, .pointer (some ⟨Bx, 0, none⟩), .slice A l.length cap, .func (.func 56) #[] #[.pointer (some ⟨w.heap.size + 1, 0, none⟩)], .int .i64 (x.1 : Int), rgV x.2, undef, undef, undef, undef, undef], defers := [] })
    (fun x a' _ X Y row hs hg hr => by
      obtain ⟨Bx, h1, h2, h3⟩ := hs
      refine ⟨Bx, h1, (hg.block Bx (Array.getElem?_eq_some_iff.1 h2).1 fun e => ?_).trans h2, h3⟩
      obtain ⟨_, o, ho, hc⟩ := hr Bx e.symm
      rw [show X.heap[Bx]? = _ from h2] at ho
      cases ho
      cases hc)
    ?assign ?body ?done ?stop
  case assign =>
    rintro y pre x W K ⟨hm, hB1, hW⟩ hK
    gi_wp2
    exact hK _ _ ((KeepsOthers.alloc _ _).from _) (BB.of ((Below.refl _ W).alloc hW _)) ⟨hm.kept (World.grownBy_alloc W _ none) (fun r e => by cases e), hB1.alloc hB1.size _, by simp; omega⟩ ⟨W.heap.size, by omega, Box.new W x.2, rfl⟩
  case body =>
    rintro y pre x a' W hl ⟨r, hr⟩ ⟨hm, hB1, hW⟩ ⟨Bx, hBx, bX, rfl⟩ hlt
    obtain ⟨p, L, hm⟩ := hm
    obtain ⟨c1, c2⟩ := bX.cells
    have c3 := hm.1.cell
    have c4 := (hm.1.alloc (.cells #[.int .i64 x.2.1, .int .i64 x.2.2, .pointer p] 54)).cell
    have f4 := (hm.1.alloc (.cells #[.int .i64 x.2.1, .int .i64 x.2.2, .pointer p] 54)).frozen
    have HM := Lib.hid (hm.cons x.2 hW (by omega))
    have HB := Lib.hid ((hB1.alloc hB1.size (.cells #[.int .i64 x.2.1, .int .i64 x.2.2, .pointer p] 54)).setCell (p := ⟨w.heap.size, 0, none⟩) (Nat.le_refl _) (.pointer (some ⟨W.heap.size, 0, none⟩)))
    have HW := Lib.hid hW
    clear hm hB1 bX hr hr0 bS bH hB0
    gi_wp2
    exact ⟨((KeepsOthers.alloc _ _).from _).trans ((KeepsOthers.setCell _ _ _).from _), (BB.of ((Below.refl _ W).alloc HW.out _)).setCell _, by rw [List.map_append, List.reverse_append]; exact HM.out, HB.out, by simp [World.setCell]; have := HW.out; omega⟩
  case done =>
    rintro D ys W hD rfl ⟨hm, hB1, hW⟩ hK
    obtain ⟨p, L, hm⟩ := hm
    have c3 := hm.1.cell
    have HM := Lib.hid hm
    have HK := Lib.hid hK
    have HB1 := Lib.hid hB1
    clear hm hB1 hr0 bS bH hB0
    gi_wp2
    refine ⟨by simp, .inl ⟨_, _, rfl, run_takeDeferred HK.out, ?_⟩⟩
    obtain ⟨_, m2, m3, m4, m5⟩ := HM.out.kept (grownBy_putObj' W D (.deferred none)) (fun r e => by cases e; exact ⟨_, HK.out, rfl⟩)
    exact ⟨_, results_tmp rfl _ _ _, p, L, rfl, m2, by rw [m3, bwP_all], m4, fun b hb => ⟨by have := (m5 b hb).1; omega, (m5 b hb).2⟩, HB1.out.trans (belowK_b (w := w) (Nat.le_refl _) W D _ _ (by omega) HK.out rfl rfl)⟩
  case stop =>
    rintro D c pre W _ _ h _
    exact h.elim

/-- impl.linkRanges -/
theorem ilinks (l : List Rg) (A : Option Addr) (cap B : Nat) (w : World) (hB : B ≤ w.heap.size) (hr : Rgs w B A l) (hn : l.length ≤ 1000000000) :
    Calls Tryd.prog 32 #[.slice A l.length cap] w fun e w' => ∃ p L, e = .returned (.pointer p) ∧ Nodes w' p L ∧ L.map (·.2) = l ∧ (L.map (·.1)).Nodup ∧ (∀ b ∈ L.map (·.1), w.heap.size ≤ b ∧ b < w'.heap.size) ∧ Below w.heap.size w w' :=
  callsIn_wide.1 (ilinks_in l A cap B w hB hr hn)
end Go.Proofs.YtjgabiklmloogaaDoor
