/-
  What spec.l4Stream returns: a stream frame behind its type.
-/
import Derived.Test.YtjbppociogoopaaDoorSFr5
namespace Go.Proofs.YtjbppociogoopaaDoor
open Go.RowKit Go.Deep Go.Proofs.YtjbppociogoopaaDoor.Num

theorem results_frame {P : Program} {fn : Func} {p u v : Tmp} {ty : TypeId} (h : fn.results = #[.cell p ty, .tmp u, .tmp v]) (tmps : Array Value) (w : World) (g : Nat) (t : TypeId) (cs : Array Value) (fr : Nat × Nat) (d : TypeDesc)
    (hp : tmps.getD p undef = .pointer (some ⟨g, 0, none⟩)) (hg : w.heap[g]? = some (.cells cs t fr))
    (hu : P.underlying ty = some d) (hd : (match d with | .struct _ | .array _ _ => true | _ => false) = true) (hi : (P.info? ty).map (·.size) = some cs.size) :
    (results fn tmps).run P w = .ok (.tuple #[.agg cs, tmps.getD u undef, tmps.getD v undef]) w := by
  have hp' : tmps[p]?.getD undef = .pointer (some ⟨g, 0, none⟩) := by simpa using hp
  simp [results, h, hp', asAddr, run_loadVar_row w g t ty cs fr d hg hu hd hi]
/-- The block of the result, the frame that is made, and all that was there. -/
def HeldS (w : World) (g1 g2 : Nat) (f : Fr) (W : World) : Prop := BoxF W g1 fr0 ∧ BoxF W g2 f ∧ Below w.heap.size w W ∧ w.heap.size ≤ g1 ∧ g1 < g2
theorem HeldS.start (w : World) (f : Fr) : HeldS w w.heap.size (w.heap.size + 1) f ((w.alloc (.cells (frC fr0) 25)).alloc (.cells (frC f) 25)) :=
  ⟨(BoxF.new w fr0).alloc _, BoxF.at _ f _ (by simp), ((Below.refl _ _).alloc (Nat.le_refl _) _).alloc (by simp) _, Nat.le_refl _, by omega⟩
theorem HeldS.next {w W W1 : World} {g1 g2 : Nat} {f : Fr} (h : HeldS w g1 g2 f W) (hb : Below W.heap.size W W1) : HeldS w g1 g2 f W1 :=
  ⟨h.1.below hb h.1.lt, h.2.1.below hb h.2.1.lt, h.2.2.1.trans (hb.mono h.2.2.1.size), h.2.2.2⟩
theorem HeldS.ne {w W : World} {g1 g2 : Nat} {f : Fr} (h : HeldS w g1 g2 f W) : g2 ≠ g1 := by have := h.2.2.2.2; omega
theorem HeldS.drew {w W : World} {g1 g2 : Nat} {f : Fr} (h : HeldS w g1 g2 f W) : HeldS w g1 g2 f W.drew := ⟨h.1, h.2.1, h.2.2.1.drew, h.2.2.2⟩
theorem HeldS.alloc {w W : World} {g1 g2 : Nat} {f : Fr} (h : HeldS w g1 g2 f W) (ob : Obj) : HeldS w g1 g2 f (W.alloc ob) := ⟨h.1.alloc _, h.2.1.alloc _, h.2.2.1.alloc h.2.2.1.size _, h.2.2.2⟩
theorem HeldS.st0 {w W : World} {g1 g2 : Nat} {f : Fr} (h : HeldS w g1 g2 f W) (x : Int) : HeldS w g1 g2 { f with kind := x } (W.setCell ⟨g2, 0, none⟩ (.int .i64 x)) :=
  ⟨h.1.other h.ne 0 _, h.2.1.set0 x, h.2.2.1.setCell (p := ⟨g2, 0, none⟩) (by have := h.2.2.2; show _ ≤ g2; omega) _, h.2.2.2⟩
theorem HeldS.st1 {w W : World} {g1 g2 : Nat} {f : Fr} (h : HeldS w g1 g2 f W) (x : Int) : HeldS w g1 g2 { f with stream := x } (W.setCell ⟨g2, 1, none⟩ (.int .i64 x)) :=
  ⟨h.1.other h.ne 1 _, h.2.1.set1 x, h.2.2.1.setCell (p := ⟨g2, 1, none⟩) (by have := h.2.2.2; show _ ≤ g2; omega) _, h.2.2.2⟩
theorem HeldS.st2 {w W : World} {g1 g2 : Nat} {f : Fr} (h : HeldS w g1 g2 f W) (x : Int) : HeldS w g1 g2 { f with offset := x } (W.setCell ⟨g2, 2, none⟩ (.int .i64 x)) :=
  ⟨h.1.other h.ne 2 _, h.2.1.set2 x, h.2.2.1.setCell (p := ⟨g2, 2, none⟩) (by have := h.2.2.2; show _ ≤ g2; omega) _, h.2.2.2⟩
theorem HeldS.st3 {w W : World} {g1 g2 : Nat} {f : Fr} (h : HeldS w g1 g2 f W) (x : ByteArray) : HeldS w g1 g2 { f with data := x } (W.setCell ⟨g2, 3, none⟩ (.string x)) :=
  ⟨h.1.other h.ne 3 _, h.2.1.set3 x, h.2.2.1.setCell (p := ⟨g2, 3, none⟩) (by have := h.2.2.2; show _ ≤ g2; omega) _, h.2.2.2⟩
theorem HeldS.st4 {w W : World} {g1 g2 : Nat} {f : Fr} (h : HeldS w g1 g2 f W) (x : Bool) : HeldS w g1 g2 { f with fin := x } (W.setCell ⟨g2, 4, none⟩ (.bool x)) :=
  ⟨h.1.other h.ne 4 _, h.2.1.set4 x, h.2.2.1.setCell (p := ⟨g2, 4, none⟩) (by have := h.2.2.2; show _ ≤ g2; omega) _, h.2.2.2⟩
theorem HeldS.st5 {w W : World} {g1 g2 : Nat} {f : Fr} (h : HeldS w g1 g2 f W) (x : Int) : HeldS w g1 g2 { f with code := x } (W.setCell ⟨g2, 5, none⟩ (.int .i64 x)) :=
  ⟨h.1.other h.ne 5 _, h.2.1.set5 x, h.2.2.1.setCell (p := ⟨g2, 5, none⟩) (by have := h.2.2.2; show _ ≤ g2; omega) _, h.2.2.2⟩
theorem HeldS.st6 {w W : World} {g1 g2 : Nat} {f : Fr} (h : HeldS w g1 g2 f W) (x : Int) : HeldS w g1 g2 { f with limit := x } (W.setCell ⟨g2, 6, none⟩ (.int .i64 x)) :=
  ⟨h.1.other h.ne 6 _, h.2.1.set6 x, h.2.2.1.setCell (p := ⟨g2, 6, none⟩) (by have := h.2.2.2; show _ ≤ g2; omega) _, h.2.2.2⟩
theorem HeldS.st7 {w W : World} {g1 g2 : Nat} {f : Fr} (h : HeldS w g1 g2 f W) (x : Int) : HeldS w g1 g2 { f with final := x } (W.setCell ⟨g2, 7, none⟩ (.int .i64 x)) :=
  ⟨h.1.other h.ne 7 _, h.2.1.set7 x, h.2.2.1.setCell (p := ⟨g2, 7, none⟩) (by have := h.2.2.2; show _ ≤ g2; omega) _, h.2.2.2⟩
theorem HeldS.st8 {w W : World} {g1 g2 : Nat} {f : Fr} (h : HeldS w g1 g2 f W) (x : Bool) : HeldS w g1 g2 { f with uni := x } (W.setCell ⟨g2, 8, none⟩ (.bool x)) :=
  ⟨h.1.other h.ne 8 _, h.2.1.set8 x, h.2.2.1.setCell (p := ⟨g2, 8, none⟩) (by have := h.2.2.2; show _ ≤ g2; omega) _, h.2.2.2⟩
theorem HeldS.cell {w W : World} {g1 g2 g : Nat} {f : Fr} (_h : HeldS w g1 g2 f W) (hg : g2 ≠ g) (k j : Nat) (v u : Value) (hc : W.cell? ⟨g, j, none⟩ = some u) : (W.setCell ⟨g2, k, none⟩ v).cell? ⟨g, j, none⟩ = some u :=
  (World.cell?_of_block (Below.heap_setCell W ⟨g2, k, none⟩ v g (by first | exact fun h => hg h.symm | exact hg))).trans hc
/-- The result's block, once all its cells have been written. -/
def setAll (W : World) (g : Nat) (f : Fr) : World := ((((((((W.setCell ⟨g, 0, none⟩ (.int .i64 f.kind)).setCell ⟨g, 1, none⟩ (.int .i64 f.stream)).setCell ⟨g, 2, none⟩ (.int .i64 f.offset)).setCell ⟨g, 3, none⟩ (.string f.data)).setCell ⟨g, 4, none⟩ (.bool f.fin)).setCell ⟨g, 5, none⟩ (.int .i64 f.code)).setCell ⟨g, 6, none⟩ (.int .i64 f.limit)).setCell ⟨g, 7, none⟩ (.int .i64 f.final)).setCell ⟨g, 8, none⟩ (.bool f.uni)
theorem BoxF.all {W : World} {g : Nat} {f : Fr} (h : BoxF W g f) (u : Fr) : BoxF (setAll W g u) g u :=
  BoxF.set8 (BoxF.set7 (BoxF.set6 (BoxF.set5 (BoxF.set4 (BoxF.set3 (BoxF.set2 (BoxF.set1 (BoxF.set0 h u.kind) u.stream) u.offset) u.data) u.fin) u.code) u.limit) u.final) u.uni
theorem setAll_below {w W : World} {g : Nat} (h : Below w.heap.size w W) (hg : w.heap.size ≤ g) (u : Fr) : Below w.heap.size w (setAll W g u) := by
  unfold setAll
  exact ((((((((h.setCell (p := ⟨g, 0, none⟩) hg _).setCell (p := ⟨g, 1, none⟩) hg _).setCell (p := ⟨g, 2, none⟩) hg _).setCell (p := ⟨g, 3, none⟩) hg _).setCell (p := ⟨g, 4, none⟩) hg _).setCell (p := ⟨g, 5, none⟩) hg _).setCell (p := ⟨g, 6, none⟩) hg _).setCell (p := ⟨g, 7, none⟩) hg _).setCell (p := ⟨g, 8, none⟩) hg _

/-- What reading a frame gives. -/
def FrP (a : Nat) (r : Option (Fr × Nat)) (w : World) (e : Ending) (w' : World) : Prop :=
  (match r with
    | none => e = .returned (.tuple #[frV fr0, .int .i64 0, .bool false])
    | some (f, m) => e = .returned (.tuple #[frV f, .int .i64 (a + m : Nat), .bool true])) ∧ Below w.heap.size w w'
theorem ext_take (s : ByteArray) (i n : Nat) : s.extract i (i + n) = ⟨((s.data.toList.drop i).take n).toArray⟩ := by
  apply ByteArray.ext
  apply Array.toList_inj.mp
  simp

end Go.Proofs.YtjbppociogoopaaDoor
