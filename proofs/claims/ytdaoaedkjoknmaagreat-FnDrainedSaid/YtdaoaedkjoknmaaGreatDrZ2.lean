/-
  Contracts and lemmas for the law on draining.
-/
import Derived.Test.YtdaoaedkjoknmaaGreatDrZ0
import Derived.Test.YtdaoaedkjoknmaaGreatDrZ1
import Derived.Laws.OwnMore
import Derived.OwnWalk
import Derived.Deep.QuietTactic
import Derived.Laws.Concat
import Derived.RegionTactic
set_option maxRecDepth 1000000
set_option maxHeartbeats 8000000
namespace Go.Proofs.YtdaoaedkjoknmaaGreat
open Go.RowKit Go.Deep Go.Proofs.YtdaoaedkjoknmaaGreat.Num

abbrev rgV (x : Rg) : Value := .agg #[.int .i64 x.1, .int .i64 x.2]
def Rgs (w : World) (B : Nat) (A : Option Addr) (l : List Rg) : Prop := ∀ j (hj : j < l.length), ∃ b off, A = some ⟨b, off, none⟩ ∧ b < B ∧ w.cell? ⟨b, off + j * 2, none⟩ = some (.int .i64 l[j].1) ∧ w.cell? ⟨b, off + j * 2 + 1, none⟩ = some (.int .i64 l[j].2)
theorem Rgs.keep {w w' : World} {B : Nat} {A : Option Addr} {l : List Rg} (h : Rgs w B A l) (hb : ∀ k, k < B → w'.heap[k]? = w.heap[k]?) : Rgs w' B A l := by
  intro j hj
  obtain ⟨b, off, hA, hlt, h1, h2⟩ := h j hj
  exact ⟨b, off, hA, hlt, (World.cell?_of_block (w := w) (hb b hlt)).trans h1, (World.cell?_of_block (w := w) (hb b hlt)).trans h2⟩
theorem Rgs.below {w w' : World} {B K : Nat} {A : Option Addr} {l : List Rg} (h : Rgs w B A l) (hK : B ≤ K) (hb : Below K w w') : Rgs w' B A l := h.keep fun k hk => hb.block k (by omega)
theorem Rgs.up {w : World} {B B' : Nat} {A : Option Addr} {l : List Rg} (h : Rgs w B A l) (hB : B ≤ B') : Rgs w B' A l := by
  intro j hj
  obtain ⟨b, off, hA, hlt, hc⟩ := h j hj
  exact ⟨b, off, hA, by omega, hc⟩
theorem Rgs.nil {w : World} {B : Nat} {A : Option Addr} : Rgs w B A [] := fun j hj => absurd hj (by simp)
def InR (l : List Rg) : Prop := ∀ x ∈ l, (-9223372036854775808 ≤ x.1 ∧ x.1 ≤ 9223372036854775807) ∧ -9223372036854775808 ≤ x.2 ∧ x.2 ≤ 9223372036854775807
def valsR : List Rg → List Value
  | [] => []
  | x :: l => .int .i64 x.1 :: .int .i64 x.2 :: valsR l
theorem valsR_len (l : List Rg) : (valsR l).length = l.length * 2 := by
  induction l with
  | nil => rfl
  | cons x l ih => simp [valsR, ih]; omega
theorem valsR_append (a b : List Rg) : valsR (a ++ b) = valsR a ++ valsR b := by
  induction a with
  | nil => rfl
  | cons x a ih => simp [valsR, ih]
theorem valsR_at (l : List Rg) : ∀ j (h : j < l.length), (valsR l)[j * 2]? = some (.int .i64 l[j].1) ∧ (valsR l)[j * 2 + 1]? = some (.int .i64 l[j].2) := by
  induction l with
  | nil => intro j h; cases h
  | cons x l ih =>
    intro j h
    cases j with
    | zero => exact ⟨rfl, rfl⟩
    | succ j =>
      have := ih j (by simpa using h)
      rw [show (j + 1) * 2 = j * 2 + 1 + 1 from by omega]
      exact this
def OwnR (w : World) (base : Nat) (v : Value) (l : List Rg) : Prop := w.ownsRow base 59 2 v l.length (valsR l)
theorem grown_below {w w' : World} (h : Below w.heap.size w w') : w.grownBy w' none := ⟨h.os, h.tape, h.output, h.size, fun i hi _ => h.block i hi⟩
theorem owns_later {w w' : World} {base e sz n : Nat} {v : Value} {vs : List Value} (h : w.ownsRow base e sz v n vs) (hb : Below w.heap.size w w') : w'.ownsRow base e sz v n vs :=
  World.ownsRow.kept h (grown_below hb) (by
    cases v.ownBlock with
    | none => exact .inl rfl
    | some k => exact .inr (by simp))
theorem OwnR.later {w w' : World} {base : Nat} {v : Value} {l : List Rg} (h : OwnR w base v l) (hb : Below w.heap.size w w') : OwnR w' base v l := owns_later h hb
theorem OwnR.alloc {w : World} {base : Nat} {v : Value} {l : List Rg} (h : OwnR w base v l) (o : Obj) : OwnR (w.alloc o) base v l := World.ownsRow.alloc h o
theorem OwnR.empty {w : World} {base : Nat} : OwnR w base (.slice none 0 0) [] := World.ownsRow_nil w base _ 2
theorem OwnR.lit (w : World) (base cap : Nat) (cur : Array Value) (hb : base ≤ w.heap.size) (hc : cap ≤ maxLen) (hs : cur.size = cap * 2) :
    OwnR (w.alloc (.cells cur 59)) base (.slice (some ⟨w.heap.size, 0, none⟩) 0 cap) [] :=
  World.ownsRow_made w cur cap hb hc (by omega)
theorem OwnR.rgs {w : World} {base : Nat} {v : Value} {l : List Rg} (h : OwnR w base v l) : ∃ A cap, v = .slice A l.length cap ∧ l.length ≤ cap ∧ Rgs w w.heap.size A l := by
  have h0 := h
  obtain ⟨_, h⟩ := h
  rcases h with ⟨rfl, hn⟩ | ⟨g, cap, cur, rfl, _, hg, hle, _, _, _⟩
  · obtain rfl : l = [] := List.eq_nil_of_length_eq_zero hn
    exact ⟨none, 0, rfl, by simp, Rgs.nil⟩
  · refine ⟨_, cap, rfl, hle, fun j hj => ⟨g, 0, rfl, (Array.getElem?_eq_some_iff.1 hg).1, ?_, ?_⟩⟩
    · rw [Nat.zero_add, World.ownsRow.cellAt h0 (j * 2) (by omega)]
      exact (valsR_at l j hj).1
    · rw [Nat.zero_add, World.ownsRow.cellAt h0 (j * 2 + 1) (by omega)]
      exact (valsR_at l j hj).2
theorem OwnR.only {w w' : World} {base g : Nat} {v : Value} {l : List Rg} (h : OwnR w base v l) (hg : w.grownBy w' (some g)) (hb : g < base) : OwnR w' base v l :=
  World.ownsRow.kept h hg (by
    cases hv : v.ownBlock with
    | none => exact .inl rfl
    | some k =>
      refine .inr (fun e => ?_)
      have := (World.ownsRow.lt h k hv).1
      have := Option.some.inj e
      omega)

theorem infoR : (Tryz.prog.info? 59).map (fun i => (i.zero, i.size, i.bytes)) = some (some (.agg #[.int .i64 0, .int .i64 0]), 2, 16) := by kernel_rfl
theorem Rgs.flat {w : World} {B g off : Nat} {l : List Rg} (h : Rgs w B (some ⟨g, off, none⟩) l) : ∀ j u, (valsR l)[j]? = some u → w.cell? ((⟨g, off, none⟩ : Addr).add j) = some u := by
  intro j u hu
  have hj : j < l.length * 2 := by
    have := (List.getElem?_eq_some_iff.1 hu).1
    rwa [valsR_len] at this
  have e : (⟨g, off, none⟩ : Addr).add j = ⟨g, off + j, none⟩ := by
    unfold Addr.add
    split <;> simp_all
  rw [e]
  have hi : j / 2 < l.length := by omega
  obtain ⟨b, o, hA, _, h1, h2⟩ := h (j / 2) hi
  have hA' := Option.some.inj hA
  injection hA' with e1 e2 _
  subst e1
  subst e2
  have hv := valsR_at l (j / 2) hi
  rcases Nat.mod_two_eq_zero_or_one j with hm | hm
  · have ej : j = j / 2 * 2 := by omega
    rw [ej] at hu ⊢
    rw [hv.1] at hu
    rw [h1]
    exact hu
  · have ej : j = j / 2 * 2 + 1 := by omega
    rw [ej] at hu ⊢
    rw [hv.2] at hu
    rw [← Nat.add_assoc, h2]
    exact hu
theorem valsR_one (l : List Rg) : ∀ u ∈ valsR l, u.oneCell' = true := by
  induction l with
  | nil => intro u hu; cases hu
  | cons x l ih =>
    intro u hu
    rcases List.mem_cons.1 hu with rfl | hu
    · rfl
    · rcases List.mem_cons.1 hu with rfl | hu
      · rfl
      · exact ih u hu

theorem wpList_append_rgs {ops : Array Oper} {rest : List Oper} {o : Oper} {a : Act} {Q : Exit → Act → World → Prop} (W : World) (hgd : o.guard = none) (s x : Operand)
    (ho : o.op = .call { callee := .builtin .append, args := #[s, x], argTypes := #[27, 27] })
    (base : Nat) (v : Value) (l : List Rg) (hs : a.eval s = v) (hown : OwnR W base v l)
    (g off m c B : Nat) (r : List Rg) (hx : a.eval x = .slice (some ⟨g, off, none⟩) m c) (hm : r.length = m) (hr : Rgs W B (some ⟨g, off, none⟩) r)
    (hlen : l.length + m ≤ 1000000000000) (hbase : base ≤ W.heap.size)
    (h : ∀ v' w', OwnR w' base v' (l ++ r) → Below base W w' → wpList Tryz.prog ops Q rest (a.put o.dst v') w') : wpList Tryz.prog ops Q (o :: rest) a W := by
  obtain ⟨i0, hi, hz0, hz1, hz2⟩ := info_parts infoR
  refine wpList_append_own W hgd s x 27 ho base 59 i0 (.agg #[.int .i64 0, .int .i64 0]) 2 16 Tryz.underlying27 hi hz0 hz1 hz2 rfl (by decide) v l.length (valsR l) hs hown ⟨g, off, none⟩ m c (valsR r) hx (by rw [valsR_len, hm]) hr.flat (valsR_one r) (by unfold maxLen; omega) (by omega) hbase ?_
  intro v' w' h1 h2 _
  refine h v' w' ?_ ((Below.refl _ _).grown h2 hbase (fun k hk => (World.ownsRow.lt hown k hk).1))
  unfold OwnR
  rw [valsR_append, List.length_append, hm]
  exact h1
theorem rgs_one (w : World) (x : Rg) (t : TypeId) : Rgs (w.alloc (.cells #[.int .i64 x.1, .int .i64 x.2] t)) (w.heap.size + 1) (some ⟨w.heap.size, 0, none⟩) [x] := by
  intro j hj
  obtain rfl : j = 0 := by simpa using hj
  exact ⟨w.heap.size, 0, rfl, by omega, by rw [World.cell?_alloc_at _ _ _ _ rfl]; rfl, by rw [World.cell?_alloc_at _ _ _ _ rfl]; rfl⟩

def mdigs (n : Nat) : List UInt8 := if _h : n = 0 then [] else mdigs (n / 10) ++ [UInt8.ofNat (48 + n % 10)]
termination_by n
decreasing_by omega
def markT (k : Int) : List UInt8 := if k ≤ 0 then [109, 48] else 109 :: mdigs k.toNat


def markC (k : Int) : Ch := ⟨k, ⟨(markT (k + 1)).toArray⟩⟩
def marksC (k : Nat) : Nat → List Ch
  | 0 => []
  | n + 1 => markC (k : Int) :: marksC (k + 2) n
theorem only_setC (w : World) (g : Nat) (k : Nat) (u : Value) : w.grownBy (w.setCell ⟨g, k, none⟩ u) (some g) :=
  ⟨rfl, rfl, rfl, by simp [World.setCell], fun i _ hne => Below.heap_setCell w ⟨g, k, none⟩ u i (by rintro rfl; exact hne rfl)⟩
def MidC (w : World) (base g off n : Nat) (l : List Ch) : Prop := l.length = n ∧ ∃ (N c : Nat) (p r : List Ch), off = p.length * 2 ∧ RowC w base g N c (p ++ (l ++ r))
theorem RowC.mid {w : World} {base g n cap : Nat} {l : List Ch} (h : RowC w base g n cap l) : MidC w base g 0 n l := ⟨h.1, n, cap, [], [], rfl, by rw [List.nil_append, List.append_nil]; exact h⟩
theorem MidC.ge {w : World} {base g off n : Nat} {l : List Ch} (h : MidC w base g off n l) : base ≤ g ∧ g < w.heap.size := by
  obtain ⟨_, N, c, p, r, _, h⟩ := h
  exact h.ge
theorem mid_at (p l r : List Ch) (j : Nat) (hj : j < l.length) : ∃ h : p.length + j < (p ++ (l ++ r)).length, (p ++ (l ++ r))[p.length + j] = l[j] := by
  have h : p.length + j < (p ++ (l ++ r)).length := by rw [List.length_append, List.length_append]; omega
  refine ⟨h, ?_⟩
  rw [List.getElem_append_right (by omega)]
  simp only [Nat.add_sub_cancel_left]
  rw [List.getElem_append_left hj]
theorem MidC.at {w : World} {base g off n : Nat} {l : List Ch} (h : MidC w base g off n l) (j : Nat) (hj : j < l.length) (i : Nat) (hi : i < 2) : w.cell? ⟨g, off + j * 2 + i, none⟩ = (chL l[j])[i]? := by
  obtain ⟨_, N, c, p, r, rfl, h⟩ := h
  obtain ⟨h1, h2⟩ := mid_at p l r j hj
  have h3 := h.at (p.length + j) h1 i hi
  rw [h2, Nat.add_mul] at h3
  exact h3
theorem MidC.chs {w : World} {base g off n : Nat} {l : List Ch} (h : MidC w base g off n l) : Chs w w.heap.size (some ⟨g, off, none⟩) l := fun j hj => ⟨g, off, rfl, h.ge.2, fun i hi => h.at j hj i hi⟩
theorem MidC.kept {w w' : World} {base g off n : Nat} {l : List Ch} {ob : Option Nat} (h : MidC w base g off n l) (hg : w.grownBy w' ob) (hne : some g ≠ ob) : MidC w' base g off n l := by
  obtain ⟨h0, N, c, p, r, h1, h⟩ := h
  exact ⟨h0, N, c, p, r, h1, h.1, World.ownsRow.kept h.2 hg (.inr hne)⟩
def OwnX (w : World) (base : Nat) (v : Value) (l : List Ch) : Prop := (v = .slice none 0 0 ∧ l = []) ∨ ∃ g off cap, v = .slice (some ⟨g, off, none⟩) l.length cap ∧ l.length ≤ cap ∧ MidC w base g off l.length l
theorem OwnC.x {w : World} {base : Nat} {v : Value} {l : List Ch} (h : OwnC w base v l) : OwnX w base v l := by
  have h0 := h
  obtain ⟨_, h⟩ := h
  rcases h with ⟨rfl, hz⟩ | ⟨g, cap, cur, rfl, _, _, hle, _, _, _⟩
  · exact .inl ⟨rfl, List.eq_nil_of_length_eq_zero hz⟩
  · exact .inr ⟨g, 0, cap, rfl, hle, (OwnC.row h0).mid⟩
theorem OwnX.frs {w : World} {base : Nat} {v : Value} {l : List Ch} (h : OwnX w base v l) : ∃ A cap, v = .slice A l.length cap ∧ l.length ≤ cap ∧ Chs w w.heap.size A l := by
  rcases h with ⟨rfl, rfl⟩ | ⟨g, off, cap, rfl, hle, h⟩
  · exact ⟨none, 0, rfl, Nat.le_refl _, Chs.nil⟩
  · exact ⟨_, cap, rfl, hle, h.chs⟩
theorem OwnX.chs {w : World} {base : Nat} {A : Option Addr} {cap : Nat} {l : List Ch} (h : OwnX w base (.slice A l.length cap) l) : Chs w w.heap.size A l := by
  obtain ⟨A', cap', e, _, hc⟩ := h.frs
  injection e with e1 _ _
  subst e1
  exact hc
theorem OwnX.lt {w : World} {base : Nat} {v : Value} {l : List Ch} (h : OwnX w base v l) : ∀ k, v.ownBlock = some k → base ≤ k ∧ k < w.heap.size := by
  rcases h with ⟨rfl, rfl⟩ | ⟨g, off, cap, rfl, hle, h⟩
  · intro k hk; cases hk
  · intro k hk
    injection hk with hk
    subst hk
    exact h.ge
theorem OwnX.kept {w w' : World} {base : Nat} {v : Value} {l : List Ch} {ob : Option Nat} (h : OwnX w base v l) (hg : w.grownBy w' ob) (hne : v.ownBlock = none ∨ v.ownBlock ≠ ob) : OwnX w' base v l := by
  rcases h with h | ⟨g, off, cap, rfl, hle, h⟩
  · exact .inl h
  · refine .inr ⟨g, off, cap, rfl, hle, h.kept hg (hne.resolve_left fun e => by cases e)⟩
theorem OwnX.later {w w' : World} {base : Nat} {v : Value} {l : List Ch} (h : OwnX w base v l) (hb : Below w.heap.size w w') : OwnX w' base v l :=
  h.kept (grownc_below hb) (by
    cases v.ownBlock with
    | none => exact .inl rfl
    | some k => exact .inr (by simp))
theorem OwnX.alloc {w : World} {base : Nat} {v : Value} {l : List Ch} (h : OwnX w base v l) (o : Obj) : OwnX (w.alloc o) base v l := h.later ((Below.refl _ _).alloc (Nat.le_refl _) _)


def szB (N : Int) (b : Bf) : Int := if N < (b.chs.length : Int) then -1 else szCs (N - b.chs.length) b.chs
theorem box2 (w : World) (a b : Value) (t : TypeId) : (w.alloc (.cells #[a, b] t)).cell? ⟨w.heap.size, 0, none⟩ = some a ∧ (w.alloc (.cells #[a, b] t)).cell? ⟨w.heap.size, 1, none⟩ = some b :=
  ⟨by rw [World.cell?_alloc_at _ _ _ _ rfl]; rfl, by rw [World.cell?_alloc_at _ _ _ _ rfl]; rfl⟩

theorem RowC.weaken {w : World} {base base' g n cap : Nat} {l : List Ch} (h : RowC w base g n cap l) (hb : base' ≤ base) : RowC w base' g n cap l := by
  obtain ⟨hl, h0, h⟩ := h
  refine ⟨hl, h0, ?_⟩
  rcases h with h | ⟨g, cap, cur, h1, h2, h3⟩
  · exact .inl h
  · exact .inr ⟨g, cap, cur, h1, by omega, h3⟩
end Go.Proofs.YtdaoaedkjoknmaaGreat

namespace Go.Proofs.YtdaoaedkjoknmaaGreat
open Go.RowKit Go.Deep Go.Proofs.YtdaoaedkjoknmaaGreat.Num

theorem OwnC.put {w : World} {base : Nat} {v : Value} {l : List Ch} (h : OwnC w base v l) (g k : Nat) (u : Value) (hg : g < base) : OwnC (w.setCell ⟨g, k, none⟩ u) base v l := h.only (only_setC w g k u) hg
theorem BoxB.other {w : World} {g : Nat} {n : Int} {v : Value} (c : BoxB w g n v) (g' k : Nat) (u : Value) (hg : g ≠ g') : BoxB (w.setCell ⟨g', k, none⟩ u) g n v := by
  unfold BoxB at c ⊢
  exact (Below.heap_setCell w ⟨g', k, none⟩ u g hg).trans c

end Go.Proofs.YtdaoaedkjoknmaaGreat

namespace Go.Proofs.YtdaoaedkjoknmaaGreat
open Go.RowKit Go.Deep Go.Proofs.YtdaoaedkjoknmaaGreat.Num

def CellB (w : World) (g : Nat) (n : Int) (v : Value) : Prop := w.cell? ⟨g, 0, none⟩ = some (.int .i64 n) ∧ w.cell? ⟨g, 1, none⟩ = some v
def InB (w0 : World) (g : Nat) (n : Int) (A : Option Addr) (cap : Nat) (l : List Ch) (W : World) : Prop :=
  CellB W g n (.slice A l.length cap) ∧ Chs W g A l ∧ g < W.heap.size ∧ Below g w0 W
theorem ownc_weaken {w : World} {base base' : Nat} {v : Value} {l : List Ch} (h : OwnC w base v l) (hb : base' ≤ base) : OwnC w base' v l := by
  obtain ⟨h0, h⟩ := h
  refine ⟨h0, ?_⟩
  rcases h with h | ⟨g, cap, cur, h1, h2, h3⟩
  · exact .inl h
  · exact .inr ⟨g, cap, cur, h1, by omega, h3⟩

def VarB (W : World) (B g : Nat) (n : Int) (v : Value) (l : List Ch) : Prop :=
  CellB W g n v ∧ OwnX W B v l ∧ (∀ k, v.ownBlock = some k → k < g) ∧ B ≤ g ∧ g < W.heap.size

abbrev rcV (r : Rc) (v : Value) : Value := .agg #[.int .i64 r.st, .int .i64 r.buf.next, v, .int .i64 r.fin, .int .i64 r.hi, .int .i64 r.code]
abbrev rcC (s n : Int) (v : Value) (f h c : Int) : Array Value := #[.int .i64 s, .int .i64 n, v, .int .i64 f, .int .i64 h, .int .i64 c]
def Cell6 (w : World) (g : Nat) (s n : Int) (v : Value) (f h c : Int) : Prop := w.cell? ⟨g, 0, none⟩ = some (.int .i64 s) ∧ w.cell? ⟨g, 1, none⟩ = some (.int .i64 n) ∧ w.cell? ⟨g, 2, none⟩ = some v ∧ w.cell? ⟨g, 3, none⟩ = some (.int .i64 f) ∧ w.cell? ⟨g, 4, none⟩ = some (.int .i64 h) ∧ w.cell? ⟨g, 5, none⟩ = some (.int .i64 c)
theorem Cell6.below {w w' : World} {K g : Nat} {s n : Int} {v : Value} {f h c : Int} (x : Cell6 w g s n v f h c) (hb : Below K w w') (hg : g < K) : Cell6 w' g s n v f h c :=
  ⟨(hb.cell (p := ⟨g, 0, none⟩) hg).trans x.1, (hb.cell (p := ⟨g, 1, none⟩) hg).trans x.2.1, (hb.cell (p := ⟨g, 2, none⟩) hg).trans x.2.2.1, (hb.cell (p := ⟨g, 3, none⟩) hg).trans x.2.2.2.1, (hb.cell (p := ⟨g, 4, none⟩) hg).trans x.2.2.2.2.1, (hb.cell (p := ⟨g, 5, none⟩) hg).trans x.2.2.2.2.2⟩
theorem Cell6.new (w : World) (s n : Int) (v : Value) (f h c : Int) (t : TypeId) : Cell6 (w.alloc (.cells (rcC s n v f h c) t)) w.heap.size s n v f h c := by
  refine ⟨?_, ?_, ?_, ?_, ?_, ?_⟩ <;> (rw [World.cell?_alloc_at _ _ _ _ rfl]; rfl)
abbrev CellR (w : World) (g : Nat) (r : Rc) (v : Value) : Prop := Cell6 w g r.st r.buf.next v r.fin r.hi r.code
def BoxR (w : World) (g : Nat) (s n : Int) (v : Value) (f h c : Int) : Prop := w.heap[g]? = some (.cells (rcC s n v f h c) 40 (0, 0))
theorem BoxR.cells {w : World} {g : Nat} {s n : Int} {v : Value} {f h c : Int} (x : BoxR w g s n v f h c) : Cell6 w g s n v f h c := ⟨cell_of_row w g 0 _ _ _ x, cell_of_row w g 1 _ _ _ x, cell_of_row w g 2 _ _ _ x, cell_of_row w g 3 _ _ _ x, cell_of_row w g 4 _ _ _ x, cell_of_row w g 5 _ _ _ x⟩
theorem BoxR.free {w : World} {g : Nat} {s n : Int} {v : Value} {f h c : Int} (x : BoxR w g s n v f h c) (k : Nat) : w.frozen? ⟨g, k, none⟩ = false := by
  unfold BoxR at x
  simp [World.frozen?, x]
theorem BoxR.new (w : World) (s n : Int) (v : Value) (f h c : Int) : BoxR (w.alloc (.cells (rcC s n v f h c) 40)) w.heap.size s n v f h c := heap_alloc_new w _
theorem BoxR.lt {w : World} {g : Nat} {s n : Int} {v : Value} {f h c : Int} (x : BoxR w g s n v f h c) : g < w.heap.size := (Array.getElem?_eq_some_iff.1 x).1
theorem BoxR.below {w w' : World} {g K : Nat} {s n : Int} {v : Value} {f h c : Int} (x : BoxR w g s n v f h c) (hb : Below K w w') (hg : g < K) : BoxR w' g s n v f h c := (hb.block g hg).trans x
theorem BoxR.alloc {w : World} {g : Nat} {s n : Int} {v : Value} {f h c : Int} (x : BoxR w g s n v f h c) (o : Obj) : BoxR (w.alloc o) g s n v f h c := (heap_alloc_old w o x.lt).trans x
theorem BoxR.other {w : World} {g : Nat} {s n : Int} {v : Value} {f h c : Int} (x : BoxR w g s n v f h c) (g' k : Nat) (u : Value) (hg : g ≠ g') : BoxR (w.setCell ⟨g', k, none⟩ u) g s n v f h c := (Below.heap_setCell w ⟨g', k, none⟩ u g hg).trans x
theorem BoxR.set0 {w : World} {g : Nat} {s n : Int} {v : Value} {f h c : Int} (x : BoxR w g s n v f h c) (y : Int) : BoxR (w.setCell ⟨g, 0, none⟩ (.int .i64 y)) g y n v f h c := by
  unfold BoxR at x ⊢
  simp [World.setCell, Array.getElem?_modify, x]
theorem BoxR.set1 {w : World} {g : Nat} {s n : Int} {v : Value} {f h c : Int} (x : BoxR w g s n v f h c) (y : Int) : BoxR (w.setCell ⟨g, 1, none⟩ (.int .i64 y)) g s y v f h c := by
  unfold BoxR at x ⊢
  simp [World.setCell, Array.getElem?_modify, x]
theorem BoxR.set2 {w : World} {g : Nat} {s n : Int} {v : Value} {f h c : Int} (x : BoxR w g s n v f h c) (u : Value) : BoxR (w.setCell ⟨g, 2, none⟩ u) g s n u f h c := by
  unfold BoxR at x ⊢
  simp [World.setCell, Array.getElem?_modify, x]
theorem BoxR.set3 {w : World} {g : Nat} {s n : Int} {v : Value} {f h c : Int} (x : BoxR w g s n v f h c) (y : Int) : BoxR (w.setCell ⟨g, 3, none⟩ (.int .i64 y)) g s n v y h c := by
  unfold BoxR at x ⊢
  simp [World.setCell, Array.getElem?_modify, x]
theorem BoxR.set4 {w : World} {g : Nat} {s n : Int} {v : Value} {f h c : Int} (x : BoxR w g s n v f h c) (y : Int) : BoxR (w.setCell ⟨g, 4, none⟩ (.int .i64 y)) g s n v f y c := by
  unfold BoxR at x ⊢
  simp [World.setCell, Array.getElem?_modify, x]
theorem BoxR.set5 {w : World} {g : Nat} {s n : Int} {v : Value} {f h c : Int} (x : BoxR w g s n v f h c) (y : Int) : BoxR (w.setCell ⟨g, 5, none⟩ (.int .i64 y)) g s n v f h y := by
  unfold BoxR at x ⊢
  simp [World.setCell, Array.getElem?_modify, x]
def VarR (W : World) (B g : Nat) (r : Rc) (v : Value) : Prop :=
  CellR W g r v ∧ OwnX W B v r.buf.chs ∧ (∀ k, v.ownBlock = some k → k < g) ∧ B ≤ g ∧ g < W.heap.size
def VarM (W : World) (B g : Nat) (r : Rc) (v : Value) (l : List Ch) : Prop :=
  CellR W g r v ∧ OwnX W B v l ∧ (∀ k, v.ownBlock = some k → k < g) ∧ B ≤ g ∧ g < W.heap.size
def InRc (w0 : World) (g : Nat) (r : Rc) (A : Option Addr) (cap : Nat) (W : World) : Prop :=
  CellR W g r (.slice A r.buf.chs.length cap) ∧ Chs W g A r.buf.chs ∧ g < W.heap.size ∧ Below g w0 W
theorem InRc.start (w : World) (r : Rc) (A : Option Addr) (cap : Nat) (t : TypeId) (hr : Chs w w.heap.size A r.buf.chs) : InRc w w.heap.size r A cap (w.alloc (.cells (rcC r.st r.buf.next (.slice A r.buf.chs.length cap) r.fin r.hi r.code) t)) :=
  ⟨Cell6.new w r.st r.buf.next _ r.fin r.hi r.code t, hr.below (Nat.le_refl _) ((Below.refl _ _).alloc (Nat.le_refl _) _), by simp, (Below.refl _ _).alloc (Nat.le_refl _) _⟩
theorem InRc.next {w0 : World} {g : Nat} {r : Rc} {A : Option Addr} {cap : Nat} {W W' : World} (h : InRc w0 g r A cap W) (hb : Below W.heap.size W W') : InRc w0 g r A cap W' :=
  ⟨h.1.below hb h.2.2.1, h.2.1.below (Nat.le_of_lt h.2.2.1) hb, Nat.lt_of_lt_of_le h.2.2.1 hb.size, h.2.2.2.trans (hb.mono (Nat.le_of_lt h.2.2.1))⟩
theorem InRc.drew {w0 : World} {g : Nat} {r : Rc} {A : Option Addr} {cap : Nat} {W : World} (h : InRc w0 g r A cap W) : InRc w0 g r A cap W.drew := h.next (Below.refl _ _).drew

theorem results_tmp_cell {P : Program} {fn : Func} {p u : Tmp} {ty : TypeId} (h : fn.results = #[.tmp u, .cell p ty]) (tmps : Array Value) (w : World) (g : Nat) (t : TypeId) (cs : Array Value) (fr : Nat × Nat) (d : TypeDesc)
    (hp : tmps.getD p undef = .pointer (some ⟨g, 0, none⟩)) (hg : w.heap[g]? = some (.cells cs t fr))
    (hu : P.underlying ty = some d) (hd : (match d with | .struct _ | .array _ _ => true | _ => false) = true) (hi : (P.info? ty).map (·.size) = some cs.size) :
    (results fn tmps).run P w = .ok (.tuple #[tmps.getD u undef, .agg cs]) w := by
  have hp' : tmps[p]?.getD undef = .pointer (some ⟨g, 0, none⟩) := by simpa using hp
  simp [results, h, hp', asAddr, run_loadVar_row w g t ty cs fr d hg hu hd hi]
theorem OwnC.cons {w : World} {base : Nat} {v : Value} {x : Ch} {l : List Ch} (h : OwnC w base v (x :: l)) : ∃ g cap, v = .slice (some ⟨g, 0, none⟩) (l.length + 1) cap ∧ l.length + 1 ≤ cap ∧ RowC w base g (l.length + 1) cap (x :: l) := by
  obtain ⟨h0, h1⟩ := h
  rcases h1 with ⟨rfl, hn⟩ | ⟨g, cap, cur, rfl, a, b, c, d, e, f⟩
  · simp at hn
  · exact ⟨g, cap, rfl, c, ⟨rfl, ⟨h0, .inr ⟨g, cap, cur, rfl, a, b, c, d, e, f⟩⟩⟩⟩

def cutC (c : Ch) (nx : Int) (n : Nat) : Ch := ⟨nx + n, ⟨(c.data.data.toList.drop n).toArray⟩⟩

theorem RowC.apart {w : World} {base g n cap : Nat} {l : List Ch} (h : RowC w base g n cap l) (g' k : Nat) (u : Value) (hg : g ≠ g') : RowC (w.setCell ⟨g', k, none⟩ u) base g n cap l :=
  ⟨h.1, World.ownsRow.kept h.2 (only_setC w g' k u) (.inr (fun e => hg (Option.some.inj e)))⟩
theorem take_str (d : ByteArray) (n : Nat) : d.extract 0 n = ⟨(d.data.toList.take n).toArray⟩ := by
  apply ByteArray.ext
  apply Array.toList_inj.mp
  simp
theorem drop_str (d : ByteArray) (n : Nat) : d.extract n d.size = ⟨(d.data.toList.drop n).toArray⟩ := by
  apply ByteArray.ext
  apply Array.toList_inj.mp
  have h : d.size = d.data.toList.length := by simp
  rw [show (d.extract n d.size).data.toList = (d.data.toList.drop n).take (d.size - n) by simp]
  rw [List.take_of_length_le (by rw [List.length_drop]; omega)]

end Go.Proofs.YtdaoaedkjoknmaaGreat

namespace Go.Proofs.YtdaoaedkjoknmaaGreat
open Go.RowKit Go.Deep Go.Proofs.YtdaoaedkjoknmaaGreat.Num

theorem take_all_str (d : ByteArray) : (⟨(d.data.toList.take d.size).toArray⟩ : ByteArray) = d := by
  apply ByteArray.ext
  apply Array.toList_inj.mp
  have h : d.size = d.data.toList.length := by simp
  rw [h, List.take_length]

theorem results_cell_tmp {P : Program} {fn : Func} {p u : Tmp} {ty : TypeId} (h : fn.results = #[.cell p ty, .tmp u]) (tmps : Array Value) (w : World) (g : Nat) (t : TypeId) (cs : Array Value) (fr : Nat × Nat) (d : TypeDesc)
    (hp : tmps.getD p undef = .pointer (some ⟨g, 0, none⟩)) (hg : w.heap[g]? = some (.cells cs t fr))
    (hu : P.underlying ty = some d) (hd : (match d with | .struct _ | .array _ _ => true | _ => false) = true) (hi : (P.info? ty).map (·.size) = some cs.size) :
    (results fn tmps).run P w = .ok (.tuple #[.agg cs, tmps.getD u undef]) w := by
  have hp' : tmps[p]?.getD undef = .pointer (some ⟨g, 0, none⟩) := by simpa using hp
  simp [results, h, hp', asAddr, run_loadVar_row w g t ty cs fr d hg hu hd hi]
theorem BoxR.drew {w : World} {g : Nat} {s n : Int} {v : Value} {f h c : Int} (x : BoxR w g s n v f h c) : BoxR w.drew g s n v f h c := x
theorem OwnX.weaken {w : World} {base base' : Nat} {v : Value} {l : List Ch} (h : OwnX w base v l) (hb : base' ≤ base) : OwnX w base' v l := by
  rcases h with h1 | ⟨g, off, c, h1, h2, h3, N, c', p, r, h4, h5, h6⟩
  · exact .inl h1
  · subst h5
    exact .inr ⟨g, off, c, h1, h2, h3, _, c', p, r, h4, rfl, ownc_weaken h6 hb⟩
structure FrX (w : World) (r : Rc) (A : Option Addr) (cap gx : Nat) (x : Rc) (u : Value) (W : World) : Prop where
  i : InRc w w.heap.size r A cap W
  o : BoxR W (w.heap.size + 1) 0 0 (.slice none 0 0) 0 0 0
  b : BoxR W gx x.st x.buf.next u x.fin x.hi x.code
  own : OwnX W (w.heap.size + 2) u x.buf.chs
  lt : w.heap.size + 1 < gx
  ne : ∀ k, u.ownBlock = some k → k ≠ gx
end Go.Proofs.YtdaoaedkjoknmaaGreat

namespace Go.Proofs.YtdaoaedkjoknmaaGreat.Num

theorem byt_two (d : ByteArray) (k : Nat) : bytD d k = byt8 d k := by
  unfold bytD byt8
  by_cases h : k < d.size
  · rw [dif_pos h, List.getD_eq_getElem?_getD, List.getElem?_eq_getElem (by rw [Array.length_toList]; exact h)]
    rfl
  · rw [dif_neg h, List.getD_eq_getElem?_getD, List.getElem?_eq_none (by rw [Array.length_toList]; exact Nat.le_of_not_lt h)]
    rfl
theorem bytes_eq {a b : ByteArray} (hs : a.size = b.size) (h : ∀ i, i < b.size → bytD a i = bytD b i) : a = b := by
  have e : a.data.toList = b.data.toList := by
    apply List.ext_getElem
    · rw [Array.length_toList, Array.length_toList]; exact hs
    · intro i h1 h2
      have h3 : i < b.size := by rw [Array.length_toList] at h2; exact h2
      have h4 := h i h3
      unfold bytD at h4
      rw [List.getD_eq_getElem?_getD, List.getD_eq_getElem?_getD, List.getElem?_eq_getElem h1, List.getElem?_eq_getElem h2] at h4
      have h5 : ((a.data.toList[i]).toNat : Int) = ((b.data.toList[i]).toNat : Int) := by simpa using h4
      exact UInt8.toNat_inj.1 (Int.ofNat_inj.1 h5)
  have e2 : a.data = b.data := Array.toList_inj.1 e
  cases a; cases b; simp_all
theorem peekL_at (sz o : Int) (cs : List Int) (k : Nat) : ∀ i, i < k → (peekL sz o cs k)[i]? = some (UInt8.ofNat (cs.getD (atR sz (o + i)) 0).toNat) := by
  induction k with
  | zero => intro i h; omega
  | succ k ih =>
    intro i hi
    show (peekL sz o cs k ++ [_])[i]? = _
    by_cases h : i < k
    · rw [List.getElem?_append_left (by rw [peekL_len]; exact h), ih i h]
    · have : i = k := by omega
      subst this
      rw [List.getElem?_append_right (by rw [peekL_len]; exact Nat.le_refl _), peekL_len, Nat.sub_self]
      rfl
theorem pkR_byte {r : Rn} {o n : Int} (h : canP r o n) (i : Nat) (hi : (i : Int) < n) (hv : 0 ≤ r.cs.getD (atR r.size (o + i)) 0 ∧ r.cs.getD (atR r.size (o + i)) 0 ≤ 255) : bytD (pkR r o n) i = r.cs.getD (atR r.size (o + i)) 0 := by
  unfold pkR
  rw [if_pos h]
  unfold bytD
  show (((peekL r.size o r.cs n.toNat).toArray.toList.getD i 0).toNat : Int) = _
  rw [List.toList_toArray, List.getD_eq_getElem?_getD, peekL_at _ _ _ _ i (by omega), Option.getD_some]
  generalize r.cs.getD (atR r.size (o + i)) 0 = z at *
  obtain ⟨m, rfl⟩ := Int.eq_ofNat_of_zero_le hv.1
  simp
  omega
theorem atR_low {sz n : Int} (h0 : 0 ≤ n) (h1 : n < sz) : atR sz n = n.toNat := by
  unfold atR
  rw [Int.emod_eq_of_lt h0 h1]
theorem zerR_keep {sz b : Int} (cs : List Int) (hb : 0 ≤ b) (k : Nat) (hk : b + k ≤ sz) (n : Int) (h0 : b + k ≤ n) (h1 : n < sz) : (zerR sz b cs k).getD (atR sz n) 0 = cs.getD (atR sz n) 0 := by
  induction k with
  | zero => rfl
  | succ k ih =>
    show ((zerR sz b cs k).set (atR sz (b + k)) 0).getD (atR sz n) 0 = _
    rw [← ih (by omega) (by omega)]
    have hne : atR sz (b + k) ≠ atR sz n := by
      rw [atR_low (by omega) (by omega), atR_low (by omega) h1]
      omega
    simp [List.getD_eq_getElem?_getD, List.getElem?_set_ne hne]
def ofW (W : ByteArray) (p : Pc) : Prop := 0 ≤ p.off ∧ p.off + (p.data.size : Int) ≤ W.size ∧ (p.fin = true → p.off + (p.data.size : Int) = W.size) ∧ (p.data.size ≠ 0 ∨ p.fin = true) ∧ ∀ i, i < p.data.size → bytD p.data i = bytD W (p.off + i).toNat
def inPc (p : Pc) (n : Int) : Prop := p.off ≤ n ∧ n < p.off + p.data.size
instance (p : Pc) (n : Int) : Decidable (inPc p n) := by unfold inPc; infer_instance
def sepP (p q : Pc) : Prop := (∀ n, ¬ (inPc p n ∧ inPc q n)) ∧ ¬ (p.fin = true ∧ q.fin = true)
structure DrI (W : ByteArray) (s : Sn) (g : Rc) (ps : List Pc) : Prop where
  w16 : W.size ≤ 16
  doc : docSn s
  size : s.rn.size = 16
  en : s.rn.en = W.size
  fin : s.fin = W.size
  low : s.st ≤ 3
  ring : ∀ n : Int, s.rn.base ≤ n → n < W.size → s.rn.cs.getD (atR 16 n) 0 = bytD W n.toNat
  ofw : ∀ p ∈ ps, ofW W p
  fl : ∀ n, hasR s.fl n ↔ ∃ p ∈ ps, inPc p n
  sep : ps.Pairwise sepP
  one : (∃ p ∈ ps, p.fin = true) ↔ s.fi = 2
  rok : okRc g
  rst : g.st ≤ 2
  nxt : g.buf.next = 0
  rhi : g.hi ≤ W.size
  rfin : g.fin = -1 ∨ g.fin = W.size
  got : ∀ n, hasR s.ac n → 0 ≤ byteB g.buf.chs n
  is : ∀ n, 0 ≤ byteB g.buf.chs n → 0 ≤ n ∧ n < W.size ∧ byteB g.buf.chs n = bytD W n.toNat
  end3 : s.fi = 3 → g.fin = W.size
theorem DrI.norm {W : ByteArray} {s : Sn} {g : Rc} {ps : List Pc} (h : DrI W s g ps) : fitS s ∧ wholeS s ∧ endS s := h.doc.low h.low
theorem DrI.fi1 {W : ByteArray} {s : Sn} {g : Rc} {ps : List Pc} (h : DrI W s g ps) : 1 ≤ s.fi := by
  obtain ⟨hf, _, he⟩ := h.norm
  have h0 := hf.2.2.2.2.2.2.1
  have h1 := he.2.2.2.2.1
  have h2 := h.fin
  by_cases h3 : s.fi = 0
  · have := h1.1 h3; omega
  · omega
theorem DrI.done {W : ByteArray} {s : Sn} {g : Rc} {ps : List Pc} (h : DrI W s g ps) (hs : s.st = 3) : ps = [] ∧ s.fi = 3 ∧ ∀ n : Int, 0 ≤ n → n < W.size → hasR s.ac n := by
  obtain ⟨hf, hw, he⟩ := h.norm
  have e1 := he.2.2.2.2.2.2
  rw [hs] at e1
  have e2 : s.fi = 3 ∧ s.rn.base = s.rn.en := by
    unfold folS at e1
    by_cases h1 : s.fi = 3 ∧ s.rn.base = s.rn.en
    · exact h1
    · rw [if_neg h1] at e1
      split at e1
      · omega
      · split at e1 <;> omega
  have hac : ∀ n : Int, 0 ≤ n → n < W.size → hasR s.ac n := fun n a b => gapR_full s.ac (-1) 0 n hf.2.2.2.1 a (by rw [he.1, e2.2, h.en]; exact b)
  refine ⟨?_, e2.1, hac⟩
  cases hp : ps with
  | nil => rfl
  | cons p L =>
    have hm : p ∈ ps := by rw [hp]; exact List.mem_cons_self ..
    have ho := h.ofw p hm
    rcases ho.2.2.2.1 with h1 | h1
    · have hfl := (h.fl p.off).2 ⟨p, hm, Int.le_refl _, by omega⟩
      exact absurd ⟨hfl, hac p.off ho.1 (by have := ho.2.1; omega)⟩ (hw.2.2.2 p.off)
    · have := h.one.1 ⟨p, hm, h1⟩
      omega
theorem DrI.st2 {W : ByteArray} {s : Sn} {g : Rc} {ps : List Pc} (h : DrI W s g ps) (h0 : ps ≠ []) : s.st ≤ 2 := by
  by_cases hs : s.st = 3
  · exact absurd (h.done hs).1 h0
  · have := h.low; omega
theorem ofW.inP {W : ByteArray} {p : Pc} (h : ofW W p) {s : Sn} (he : s.rn.en = W.size) (hf : s.fin = W.size) : inP s p :=
  ⟨h.1, by have := h.2.1; omega, by have := h.2.1; omega, fun e => ⟨by omega, by have := h.2.2.1 e; omega⟩⟩
theorem DrI.send {W : ByteArray} {s : Sn} {g : Rc} {ps : List Pc} (h : DrI W s g ps) {m l : Int} {p : Pc} (hp : nxS true s m l = some p) : DrI W (sdS true s p) g (ps ++ [p]) ∧ canS true s p := by
  obtain ⟨n1, n2, n3, n4, n5, n6⟩ := nx_ok h.doc hp
  obtain ⟨hf, hw, he⟩ := h.norm
  have hin := n6.1.2.2.1
  have hd := sdS_doc p h.doc
  have hpw : ofW W p := by
    refine ⟨hin.1, by have := hin.2.2.1; have := h.en; omega, fun e => by have := n5 e; have := h.fin; omega, n6.1.2.2.2.1, fun i hi => ?_⟩
    have hb := n1.2.1
    have hle := n1.2.2.2.2
    have hen := h.en
    have hw16 := h.w16
    have h16 := h.size
    have hr := h.ring (p.off + i) (by omega) (by omega)
    rw [← n2, pkR_byte n1 i (by omega), h16, hr]
    rw [h16, hr]
    exact bytD_in _ _
  have hpe : p.data.size ≠ 0 → ∀ n, inPc p n → hasR s.pe n := fun h0 n hn => by
    have h1 := n6.2 h0
    have h2 : hasR [pcR p] n := (hasR_cons _ _ _).2 (.inl hn)
    rw [← h1, comR_has] at h2
    exact h2.1
  have hfin : p.fin = true → s.fi = 1 := n6.1.2.2.2.2
  have hsep : ∀ q ∈ ps, sepP q p := fun q hq => by
    refine ⟨fun n hn => ?_, fun e => ?_⟩
    · have h0 : p.data.size ≠ 0 := fun e => by have := hn.2; unfold inPc at this; omega
      exact hw.2.1 n ⟨hpe h0 n hn.2, (h.fl n).2 ⟨q, hq, hn.1⟩⟩
    · have h1 := h.one.1 ⟨q, hq, e.1⟩
      have h2 := hfin e.2
      omega
  have hS : sdS true s p = fixS { s with pe := if p.data.size ≠ 0 then remL s.pe (pcR p) else s.pe, fl := if p.data.size ≠ 0 then addL s.fl (pcR p) else s.fl, sent := if p.data.size ≠ 0 then max s.sent (pcR p).2 else s.sent, fi := if p.fin = true then 2 else s.fi } := by unfold sdS; rw [if_pos n6]
  have hfl : ∀ n, hasR (sdS true s p).fl n ↔ hasR s.fl n ∨ inPc p n := fun n => by
    rw [hS]
    show hasR (if p.data.size ≠ 0 then addL s.fl (pcR p) else s.fl) n ↔ _
    by_cases h0 : p.data.size = 0
    · rw [if_neg (fun e => e h0)]
      exact ⟨.inl, fun e => e.resolve_right (fun e => by unfold inPc at e; omega)⟩
    · rw [if_pos h0]
      exact (addL_ok hf.2.2.1 ⟨by show 0 ≤ p.off; exact hin.1, by show p.off < p.off + (p.data.size : Int); omega, by show p.off + (p.data.size : Int) ≤ _; have := hf.1.2.2.2.2.2.1; have := hin.2.2.1; omega⟩).2 n
  have hfi : (sdS true s p).fi = if p.fin = true then 2 else s.fi := by rw [hS]; rfl
  have hrn : (sdS true s p).rn = s.rn := by rw [hS]; rfl
  have hac : (sdS true s p).ac = s.ac := by rw [hS]; rfl
  have hfn : (sdS true s p).fin = s.fin := by rw [hS]; rfl
  refine ⟨⟨h.w16, hd, by rw [hrn]; exact h.size, by rw [hrn]; exact h.en, by rw [hfn]; exact h.fin, by rw [hS]; exact (folS_in _).2, by rw [hrn]; exact h.ring, ?_, ?_, ?_, ?_, h.rok, h.rst, h.nxt, h.rhi, h.rfin, by rw [hac]; exact h.got, h.is, ?_⟩, n6⟩
  · intro q hq
    rcases List.mem_append.1 hq with h1 | h1
    · exact h.ofw q h1
    · rw [List.mem_singleton.1 h1]; exact hpw
  · intro n
    rw [hfl, h.fl]
    constructor
    · rintro (⟨q, hq, hn⟩ | hn)
      · exact ⟨q, List.mem_append.2 (.inl hq), hn⟩
      · exact ⟨p, List.mem_append.2 (.inr (List.mem_singleton.2 rfl)), hn⟩
    · rintro ⟨q, hq, hn⟩
      rcases List.mem_append.1 hq with h1 | h1
      · exact .inl ⟨q, h1, hn⟩
      · rw [List.mem_singleton.1 h1] at hn; exact .inr hn
  · exact List.pairwise_append.2 ⟨h.sep, List.pairwise_singleton _ _, fun q hq x hx => by rw [List.mem_singleton.1 hx]; exact hsep q hq⟩
  · rw [hfi]
    constructor
    · rintro ⟨q, hq, e⟩
      rcases List.mem_append.1 hq with h1 | h1
      · have h2 := h.one.1 ⟨q, h1, e⟩
        split
        · rfl
        · exact h2
      · rw [List.mem_singleton.1 h1] at e
        rw [if_pos e]
    · intro e
      by_cases hpf : p.fin = true
      · exact ⟨p, List.mem_append.2 (.inr (List.mem_singleton.2 rfl)), hpf⟩
      · rw [if_neg hpf] at e
        obtain ⟨q, hq, e2⟩ := h.one.2 e
        exact ⟨q, List.mem_append.2 (.inl hq), e2⟩
  · intro e
    rw [hfi] at e
    split at e
    · omega
    · exact h.end3 e
theorem sep_mid {L R : List Pc} {q : Pc} (h : (L ++ q :: R).Pairwise sepP) : (L ++ R).Pairwise sepP ∧ ∀ p ∈ L ++ R, sepP p q ∨ sepP q p := by
  obtain ⟨h1, h2, h3⟩ := List.pairwise_append.1 h
  obtain ⟨h4, h5⟩ := List.pairwise_cons.1 h2
  refine ⟨List.pairwise_append.2 ⟨h1, h5, fun a ha b hb => h3 a ha b (List.mem_cons_of_mem _ hb)⟩, fun p hp => ?_⟩
  rcases List.mem_append.1 hp with h6 | h6
  · exact .inl (h3 p h6 q (List.mem_cons_self ..))
  · exact .inr (h4 p h6)
theorem DrI.less {W : ByteArray} {s : Sn} {g : Rc} {L R : List Pc} {q : Pc} (h : DrI W s g (L ++ q :: R)) :
    canA true s q ∧ (okR (-1) (comS s q) ∧ ∀ n, hasR (comS s q) n ↔ inPc q n) ∧ (∀ n, hasR s.fl n ∧ ¬ inPc q n ↔ ∃ p ∈ L ++ R, inPc p n) ∧ (∀ p ∈ L ++ R, p.fin = true → q.fin = true → False) := by
  obtain ⟨hf, hw, he⟩ := h.norm
  have hm : q ∈ L ++ q :: R := List.mem_append.2 (.inr (List.mem_cons_self ..))
  have hq := h.ofw q hm
  have hin := hq.inP h.en h.fin
  have hst := h.st2 (by simp)
  obtain ⟨s1, s2⟩ := sep_mid h.sep
  have hcm := comS_ok hf.2.2.1 hin hf.1.2.2.2.2.2.1
  refine ⟨⟨rfl, hst, hin⟩, ⟨hcm.1, fun n => ⟨fun hn => ((hcm.2 n).1 hn).2, fun hn => (hcm.2 n).2 ⟨(h.fl n).2 ⟨q, hm, hn⟩, hn⟩⟩⟩, fun n => ?_, fun p hp e1 e2 => ?_⟩
  · rw [h.fl]
    constructor
    · rintro ⟨⟨p, hp, hn⟩, hno⟩
      rcases List.mem_append.1 hp with h1 | h1
      · exact ⟨p, List.mem_append.2 (.inl h1), hn⟩
      · rcases List.mem_cons.1 h1 with h2 | h2
        · rw [h2] at hn; exact absurd hn hno
        · exact ⟨p, List.mem_append.2 (.inr h2), hn⟩
    · rintro ⟨p, hp, hn⟩
      refine ⟨⟨p, ?_, hn⟩, fun hno => ?_⟩
      · rcases List.mem_append.1 hp with h1 | h1
        · exact List.mem_append.2 (.inl h1)
        · exact List.mem_append.2 (.inr (List.mem_cons_of_mem _ h1))
      · rcases s2 p hp with h1 | h1
        · exact h1.1 n ⟨hn, hno⟩
        · exact h1.1 n ⟨hno, hn⟩
  · rcases s2 p hp with h1 | h1
    · exact h1.2 ⟨e1, e2⟩
    · exact h1.2 ⟨e2, e1⟩
theorem one_less {W : ByteArray} {s : Sn} {g : Rc} {L R : List Pc} {q : Pc} (h : DrI W s g (L ++ q :: R)) (k : Int) (hk : k ≠ 2) : (∃ p ∈ L ++ R, p.fin = true) ↔ (if q.fin = true ∧ s.fi = 2 then k else s.fi) = 2 := by
  obtain ⟨_, _, _, h4⟩ := h.less
  have hm : q ∈ L ++ q :: R := List.mem_append.2 (.inr (List.mem_cons_self ..))
  by_cases e : q.fin = true
  · have h2 := h.one.1 ⟨q, hm, e⟩
    rw [if_pos ⟨e, h2⟩]
    exact ⟨fun ⟨p, hp, e1⟩ => absurd e (fun e2 => h4 p hp e1 e2), fun h3 => absurd h3 hk⟩
  · rw [if_neg (fun h => e h.1), ← h.one]
    constructor
    · rintro ⟨p, hp, e1⟩
      rcases List.mem_append.1 hp with h1 | h1
      · exact ⟨p, List.mem_append.2 (.inl h1), e1⟩
      · exact ⟨p, List.mem_append.2 (.inr (List.mem_cons_of_mem _ h1)), e1⟩
    · rintro ⟨p, hp, e1⟩
      rcases List.mem_append.1 hp with h1 | h1
      · exact ⟨p, List.mem_append.2 (.inl h1), e1⟩
      · rcases List.mem_cons.1 h1 with h2 | h2
        · rw [h2] at e1; exact absurd e1 e
        · exact ⟨p, List.mem_append.2 (.inr h2), e1⟩
theorem ofw_less {W : ByteArray} {s : Sn} {g : Rc} {L R : List Pc} {q : Pc} (h : DrI W s g (L ++ q :: R)) : ∀ p ∈ L ++ R, ofW W p := fun p hp => h.ofw p (by
  rcases List.mem_append.1 hp with h1 | h1
  · exact List.mem_append.2 (.inl h1)
  · exact List.mem_append.2 (.inr (List.mem_cons_of_mem _ h1)))
theorem DrI.lose {W : ByteArray} {s : Sn} {g : Rc} {L R : List Pc} {q : Pc} (h : DrI W s g (L ++ q :: R)) : DrI W (loS true s q) g (L ++ R) := by
  obtain ⟨hc, hcm, h3, h4⟩ := h.less
  obtain ⟨hf, _, _⟩ := h.norm
  have hd := loS_doc q h.doc
  have hrm := remLs_ok (comS s q) s.fl (-1) (Int.le_refl _) hf.2.2.1 hcm.1
  have hS : loS true s q = fixS { s with fl := remLs s.fl (comS s q), pe := addLs s.pe (comS s q), fi := if q.fin = true ∧ s.fi = 2 then 1 else s.fi } := by unfold loS; rw [if_pos hc]
  have hfi : (loS true s q).fi = if q.fin = true ∧ s.fi = 2 then 1 else s.fi := by rw [hS]; rfl
  have hrn : (loS true s q).rn = s.rn := by rw [hS]; rfl
  have hac : (loS true s q).ac = s.ac := by rw [hS]; rfl
  have hfn : (loS true s q).fin = s.fin := by rw [hS]; rfl
  have hfl : (loS true s q).fl = remLs s.fl (comS s q) := by rw [hS]; rfl
  refine ⟨h.w16, hd, by rw [hrn]; exact h.size, by rw [hrn]; exact h.en, by rw [hfn]; exact h.fin, by rw [hS]; exact (folS_in _).2, by rw [hrn]; exact h.ring, ofw_less h, fun n => ?_, (sep_mid h.sep).1, by rw [hfi]; exact one_less h 1 (by decide), h.rok, h.rst, h.nxt, h.rhi, h.rfin, by rw [hac]; exact h.got, h.is, fun e => ?_⟩
  · rw [hfl, hrm.2, hcm.2, h3]
  · rw [hfi] at e
    split at e
    · omega
    · exact h.end3 e
theorem DrI.recv {W : ByteArray} {s : Sn} {g : Rc} {L R : List Pc} {q : Pc} (h : DrI W s g (L ++ q :: R)) :
    (rcvRc g q.off q.data q.fin).2 = 0 ∧ okRc (rcvRc g q.off q.data q.fin).1 ∧ (rcvRc g q.off q.data q.fin).1.st ≤ 2 ∧ (rcvRc g q.off q.data q.fin).1.buf.next = 0 ∧ (rcvRc g q.off q.data q.fin).1.hi ≤ W.size ∧ ((rcvRc g q.off q.data q.fin).1.fin = -1 ∨ (rcvRc g q.off q.data q.fin).1.fin = W.size) ∧
    (∀ n, hasR s.ac n ∨ inPc q n → 0 ≤ byteB (rcvRc g q.off q.data q.fin).1.buf.chs n) ∧ (∀ n, 0 ≤ byteB (rcvRc g q.off q.data q.fin).1.buf.chs n → 0 ≤ n ∧ n < W.size ∧ byteB (rcvRc g q.off q.data q.fin).1.buf.chs n = bytD W n.toNat) ∧ (s.fi = 3 ∨ q.fin = true → (rcvRc g q.off q.data q.fin).1.fin = W.size) := by
  have hm : q ∈ L ++ q :: R := List.mem_append.2 (.inr (List.mem_cons_self ..))
  obtain ⟨o1, o2, o3, o4, o5⟩ := h.ofw q hm
  have hw16 := h.w16
  have hhi := h.rhi
  have hfn := h.rfin
  have hok := okRc_rcv q.off q.data q.fin h.rok
  have e1 : ¬ ¬ (okRc g ∧ 0 ≤ q.off ∧ q.off ≤ 4611686018427387903 - q.data.size) := fun hn => hn ⟨h.rok, o1, by omega⟩
  have e2 : ¬ badRc g (q.off + q.data.size) q.fin := by
    rintro (⟨b1, b2 | b2⟩ | b2)
    · omega
    · have := o3 b2.1; omega
    · have := o3 b2.1; omega
  unfold rcvRc at hok ⊢
  rw [if_neg e1, if_neg e2] at hok ⊢
  by_cases hst : 1 < g.st
  · rw [if_pos hst] at hok ⊢
    have h2 : g.st = 2 := by have := h.rst; omega
    have hfull : fullRc g := by
      rcases h.rok.2 with a | a | a | a | a
      · omega
      · omega
      · exact a.2.1
      · omega
      · omega
    have hgf : g.fin = W.size := hfn.resolve_left hfull.1
    have hall : ∀ n : Int, 0 ≤ n → n < W.size → 0 ≤ byteB g.buf.chs n := fun n a b => by
      have hr : rdyB g.buf = W.size := by have := hfull.2; have := h.nxt; omega
      obtain ⟨_, c, l, hl, hn, hs⟩ := rdyB_pos (b := g.buf) (by omega)
      rw [hl]
      unfold byteB
      rw [if_pos (show inC c n from ⟨by have := h.nxt; omega, by have := h.nxt; omega, by have := h.nxt; omega⟩)]
      exact (bytD_in _ _).1
    obtain ⟨hf, hw, he⟩ := h.norm
    refine ⟨rfl, hok, by show g.st ≤ 2; omega, h.nxt, hhi, hfn, fun n hn => ?_, h.is, fun _ => hgf⟩
    rcases hn with hn | hn
    · have := (hw.1 n).1 (.inr (.inr hn))
      exact hall n this.1 (by have := h.en; omega)
    · unfold inPc at hn
      exact hall n (by omega) (by omega)
  · rw [if_neg hst] at hok ⊢
    have hx : (datRc g q.off q.data q.fin).buf = insB g.buf q.off q.data := fillRc_buf _
    have hbok : okB g.buf := h.rok.1.1
    have hby : ∀ n, byteB (datRc g q.off q.data q.fin).buf.chs n = if 0 ≤ byteB g.buf.chs n then byteB g.buf.chs n else if inPc q n then bytD q.data (n - q.off).toNat else -1 := fun n => by
      rw [hx]
      by_cases h0 : q.data.size = 0
      · have e3 : ¬ canI g.buf q.off q.data := fun hc => hc.2.1 h0
        unfold insB
        rw [if_neg e3]
        rcases byteB_cases g.buf.chs n with a | a
        · rw [if_neg (by omega), if_neg (by intro hq; unfold inPc at hq; omega)]; exact a
        · rw [if_pos a.1]
      · have hc : canI g.buf q.off q.data := ⟨hbok, h0, o1, by omega, by have := h.nxt; omega⟩
        rw [insB_byte g.buf q.off q.data hc n]
        by_cases h1 : 0 ≤ byteB g.buf.chs n
        · rw [if_pos h1, if_pos h1]
        · rw [if_neg h1, if_neg h1]
          have hmx : max q.off g.buf.next = q.off := by have := h.nxt; omega
          rw [hmx]
          rfl
    have hgs : ∀ x : Rc, (fillRc x).fin = x.fin ∧ (fillRc x).hi = x.hi ∧ ((fillRc x).st = 2 ∨ (fillRc x).st = x.st) := fun x => by
      unfold fillRc
      split
      · exact ⟨rfl, rfl, .inl rfl⟩
      · exact ⟨rfl, rfl, .inr rfl⟩
    obtain ⟨g1, g2, g3⟩ := hgs ⟨if q.fin = true then 1 else g.st, insB g.buf q.off q.data, if q.fin = true then q.off + q.data.size else g.fin, max g.hi (q.off + q.data.size), g.code⟩
    have hfin : (datRc g q.off q.data q.fin).fin = if q.fin = true then q.off + q.data.size else g.fin := g1
    have hhi2 : (datRc g q.off q.data q.fin).hi = max g.hi (q.off + q.data.size) := g2
    refine ⟨rfl, hok, ?_, ?_, ?_, ?_, ?_, ?_, ?_⟩
    · show (datRc g q.off q.data q.fin).st ≤ 2
      rcases g3 with a | a
      · have : (datRc g q.off q.data q.fin).st = 2 := a
        omega
      · have a2 : (datRc g q.off q.data q.fin).st = if q.fin = true then 1 else g.st := a
        rw [a2]
        split <;> omega
    · show (datRc g q.off q.data q.fin).buf.next = 0
      rw [hx, insB_next]; exact h.nxt
    · show (datRc g q.off q.data q.fin).hi ≤ _
      rw [hhi2]; omega
    · show (datRc g q.off q.data q.fin).fin = -1 ∨ (datRc g q.off q.data q.fin).fin = _
      rw [hfin]
      split
      · rename_i e; exact .inr (o3 e)
      · exact hfn
    · intro n hn
      show 0 ≤ byteB (datRc g q.off q.data q.fin).buf.chs n
      rw [hby n]
      by_cases h1 : 0 ≤ byteB g.buf.chs n
      · rw [if_pos h1]; exact h1
      · rw [if_neg h1]
        rcases hn with hn | hn
        · exact absurd (h.got n hn) h1
        · rw [if_pos hn]; exact (bytD_in _ _).1
    · intro n
      show 0 ≤ byteB (datRc g q.off q.data q.fin).buf.chs n → _ ∧ _ ∧ byteB (datRc g q.off q.data q.fin).buf.chs n = _
      rw [hby n]
      by_cases h1 : 0 ≤ byteB g.buf.chs n
      · rw [if_pos h1]
        exact fun _ => h.is n h1
      · rw [if_neg h1]
        by_cases h2 : inPc q n
        · rw [if_pos h2]
          intro _
          have h3 := h2
          unfold inPc at h3
          refine ⟨by omega, by omega, ?_⟩
          rw [o5 (n - q.off).toNat (by omega)]
          congr 1
          omega
        · rw [if_neg h2]; intro h3; omega
    · intro e
      show (datRc g q.off q.data q.fin).fin = _
      rw [hfin]
      split
      · rename_i e2; exact o3 e2
      · rename_i e2
        rcases e with e | e
        · exact h.end3 e
        · exact absurd e e2
theorem DrI.ack {W : ByteArray} {s : Sn} {g : Rc} {L R : List Pc} {q : Pc} (h : DrI W s g (L ++ q :: R)) : DrI W (akS true s q) (rcvRc g q.off q.data q.fin).1 (L ++ R) := by
  obtain ⟨_, k1, k2, k3, k4, k5, k6, k7, k8⟩ := h.recv
  obtain ⟨hc, hcm, h3, h4⟩ := h.less
  obtain ⟨hf, hw, he⟩ := h.norm
  have hd := akS_doc q h.doc
  have hrm := remLs_ok (comS s q) s.fl (-1) (Int.le_refl _) hf.2.2.1 hcm.1
  have had := addLs_ok (comS s q) s.ac (-1) (Int.le_refl _) hf.2.2.2.1 hcm.1
  have hS : akS true s q = fixS { s with fl := remLs s.fl (comS s q), ac := addLs s.ac (comS s q), fi := if q.fin = true ∧ s.fi = 2 then 3 else s.fi, rn := drR s.rn (if okR (-1) (addLs s.ac (comS s q)) then gapR (addLs s.ac (comS s q)) 0 else -1) } := by unfold akS; rw [if_pos hc]
  rw [if_pos had.1] at hS
  have hfi : (akS true s q).fi = if q.fin = true ∧ s.fi = 2 then 3 else s.fi := by rw [hS]; rfl
  have hrn : (akS true s q).rn = drR s.rn (gapR (addLs s.ac (comS s q)) 0) := by rw [hS]; rfl
  have hac : (akS true s q).ac = addLs s.ac (comS s q) := by rw [hS]; rfl
  have hfn : (akS true s q).fin = s.fin := by rw [hS]; rfl
  have hfl : (akS true s q).fl = remLs s.fl (comS s q) := by rw [hS]; rfl
  have hdr : (drR s.rn (gapR (addLs s.ac (comS s q)) 0)).size = s.rn.size ∧ (drR s.rn (gapR (addLs s.ac (comS s q)) 0)).en = s.rn.en := by
    unfold drR
    split <;> exact ⟨rfl, rfl⟩
  refine ⟨h.w16, hd, by rw [hrn, hdr.1]; exact h.size, by rw [hrn, hdr.2]; exact h.en, by rw [hfn]; exact h.fin, by rw [hS]; exact (folS_in _).2, ?_, ofw_less h, fun n => ?_, (sep_mid h.sep).1, by rw [hfi]; exact one_less h 3 (by decide), k1, k2, k3, k4, k5, fun n hn => ?_, k7, fun e => ?_⟩
  · intro n
    rw [hrn]
    unfold drR
    split
    · rename_i hcd
      intro a b
      have a' : gapR (addLs s.ac (comS s q)) 0 ≤ n := a
      show (zerR s.rn.size s.rn.base s.rn.cs _).getD (atR 16 n) 0 = _
      have h5 := hcd.2
      have h6 := hf.1.2.2.1
      have h16 := h.size
      have hw16 := h.w16
      have hen := h.en
      rw [h16, zerR_keep s.rn.cs h6 _ (by omega) n (by omega) (by omega)]
      exact h.ring n (by omega) b
    · exact h.ring n
  · rw [hfl, hrm.2, hcm.2, h3]
  · rw [hac] at hn
    rcases (had.2 n).1 hn with h5 | h5
    · exact k6 n (.inl h5)
    · exact k6 n (.inr ((hcm.2 n).1 h5))
  · rw [hfi] at e
    split at e
    · rename_i e2; exact k8 (.inr e2.1)
    · exact k8 (.inl e)
theorem DrI.read {W : ByteArray} {s : Sn} {g : Rc} {ps : List Pc} (h : DrI W s g ps) (hs : s.st = 3) : ps = [] ∧ g.st = 2 ∧ (readRc g 100).1 = W := by
  obtain ⟨d1, d2, d3⟩ := h.done hs
  have hgf := h.end3 d2
  have hbok : okB g.buf := h.rok.1.1
  have hnx := h.nxt
  have hend : endB g.buf ≤ W.size := by have := h.rok.1.2.2.1; have := h.rhi; omega
  have hall : ∀ n : Int, 0 ≤ n → n < W.size → 0 ≤ byteB g.buf.chs n := fun n a b => h.got n (d3 n a b)
  have hrd : rdyB g.buf = W.size := by
    have hle := rdyB_le hbok
    by_cases h0 : W.size = 0
    · omega
    · have h1 := (byteB_has g.buf.chs (g.buf.next - 1) (by omega) hbok.1 0).1 (hall 0 (Int.le_refl _) (by omega))
      cases hch : g.buf.chs with
      | nil => rw [hch] at h1; exact absurd h1 (hasR_nil 0)
      | cons c l =>
        have hk := hbok.1
        rw [hch] at hk h1
        obtain ⟨k1, k2, k3, k4⟩ := hk
        have k1' : g.buf.next - 1 < c.off := k1
        rcases (hasR_cons _ _ _).1 h1 with h2 | h2
        · have c0 : c.off = g.buf.next := by have : c.off ≤ 0 := h2.1; omega
          have hr : rdyB g.buf = c.data.size := by unfold rdyB; rw [if_pos hbok, hch]; exact if_pos c0
          by_cases h3 : c.data.size < W.size
          · exfalso
            have h4 := (byteB_has g.buf.chs (g.buf.next - 1) (by omega) hbok.1 (c.data.size : Int)).1 (hall c.data.size (by omega) (by omega))
            rw [hch] at h4
            rcases (hasR_cons _ _ _).1 h4 with h5 | h5
            · have : (c.data.size : Int) < c.off + c.data.size := h5.2; omega
            · have := okR.above k4 _ h5
              have e : (ckR c).2 = c.off + c.data.size := rfl
              omega
          · omega
        · have := okR.above k4 _ h2
          have e : (ckR c).2 = c.off + c.data.size := rfl
          omega
  have hfull : fullRc g := ⟨by omega, by omega⟩
  have hst : g.st = 2 := by
    have := h.rst
    rcases h.rok.2 with a | a | a | a | a
    · omega
    · exact absurd hfull a.2.2.1
    · exact a.1
    · omega
    · omega
  refine ⟨d1, hst, ?_⟩
  unfold readRc
  rw [if_neg (fun hn => hn h.rok), if_neg (by omega)]
  show headT g.buf (cntT g.buf 100) = W
  have hct : cntT g.buf 100 = W.size := by have := h.w16; unfold cntT; omega
  refine bytes_eq (by rw [headT_size, hct]) (fun i hi => ?_)
  rw [headT_byte g.buf 100 i (by omega), hnx]
  have := h.is (0 + (i : Int)) (hall _ (by omega) (by omega))
  rw [this.2.2]
  congr 1
  omega
theorem DrI.start {W : ByteArray} (hw : W.size ≤ 16) : wrNS true (nwS 16) W = W.size ∧ DrI W (clS true (wrS true (nwS 16) W)) nuRc [] := by
  have hp : powR 16 := by unfold powR; omega
  have hn : nwS 16 = ⟨0, nwR 16, [], [], [], -1, 0, 0, 0⟩ := if_pos hp
  have hr : nwR 16 = ⟨16, 0, 0, List.replicate (16 : Int).toNat 0⟩ := if_pos hp
  have hok := nwR_ok hp
  have hd0 : docSn (nwS 16) := nwS_doc hp
  have hd1 := wrS_doc W hd0
  have hd2 := clS_doc hd1
  have hrm : roomR (nwR 16) = 16 := by unfold roomR; rw [if_pos hok, hr]; decide
  have hct : cntW (nwR 16) W = W.size := by have := cntW_in (nwR 16) W; rw [hrm] at this; omega
  have hcw : canW true (nwS 16) := ⟨rfl, by rw [hn]; show (0 : Int) ≤ 1; decide, by rw [hn]⟩
  have hwr : wrS true (nwS 16) W = { nwS 16 with rn := wrR (nwS 16).rn W, pe := if 0 < cntW (nwS 16).rn W then addL (nwS 16).pe ((nwS 16).rn.en, (nwS 16).rn.en + cntW (nwS 16).rn W) else (nwS 16).pe } := by unfold wrS; rw [if_pos hcw]
  have hcl : canW true (wrS true (nwS 16) W) := ⟨rfl, by rw [hwr, hn]; show (0 : Int) ≤ 1; decide, by rw [hwr, hn]⟩
  have hS : clS true (wrS true (nwS 16) W) = { wrS true (nwS 16) W with fin := (wrS true (nwS 16) W).rn.en, fi := 1 } := by unfold clS; rw [if_pos hcl]
  have hrn : (wrS true (nwS 16) W).rn = wrR (nwR 16) W := by rw [hwr, hn]
  have hen : (wrR (nwR 16) W).en = W.size := by unfold wrR; rw [hct, hr]; show (0 : Int) + _ = _; omega
  have hbs : (wrR (nwR 16) W).base = 0 := by unfold wrR; rw [hr]
  have hcs : ∀ i : Nat, i < W.size → (wrR (nwR 16) W).cs.getD (atR 16 ((0 : Int) + i)) 0 = byt8 W i := fun i hi => by
    unfold wrR
    rw [hct, hr]
    exact putR_seen W (List.replicate (16 : Int).toNat 0) (by decide) (by decide) W.size i hi (by show ((W.size : Nat) : Int) ≤ 16; omega)
  refine ⟨by unfold wrNS; rw [if_pos hcw, hn]; exact hct, ⟨hw, hd2, ?_, ?_, ?_, ?_, ?_, fun p h => (by cases h), ?_, List.Pairwise.nil, ?_, ?_, by decide, rfl, by show (0 : Int) ≤ _; omega, .inl rfl, ?_, fun n h => absurd h (by show ¬ (0 : Int) ≤ -1; decide), ?_⟩⟩
  · rw [hS]; show (wrS true (nwS 16) W).rn.size = 16; rw [hrn]; unfold wrR; rw [hr]
  · rw [hS]; show (wrS true (nwS 16) W).rn.en = _; rw [hrn]; exact hen
  · rw [hS]; show (wrS true (nwS 16) W).rn.en = _; rw [hrn]; exact hen
  · rw [hS, hwr, hn]; show (0 : Int) ≤ 3; decide
  · intro n a b
    rw [hS] at a ⊢
    have a' : (wrS true (nwS 16) W).rn.base ≤ n := a
    show (wrS true (nwS 16) W).rn.cs.getD (atR 16 n) 0 = _
    rw [hrn] at a' ⊢
    rw [hbs] at a'
    have := hcs n.toNat (by omega)
    rw [show (0 : Int) + (n.toNat : Int) = n by omega] at this
    rw [this, byt_two]
  · intro n
    have e : (clS true (wrS true (nwS 16) W)).fl = [] := by rw [hS, hwr, hn]
    rw [e]
    exact ⟨fun h => absurd h (hasR_nil n), fun ⟨p, hp, _⟩ => (by cases hp)⟩
  · have e : (clS true (wrS true (nwS 16) W)).fi = 1 := by rw [hS]
    rw [e]
    exact ⟨fun ⟨p, hp, _⟩ => (by cases hp), fun h => absurd h (by decide)⟩
  · decide
  · intro n h
    have e : (clS true (wrS true (nwS 16) W)).ac = [] := by rw [hS, hwr, hn]
    rw [e] at h
    exact absurd h (hasR_nil n)
  · intro h
    have e : (clS true (wrS true (nwS 16) W)).fi = 1 := by rw [hS]
    rw [e] at h
    omega
end Go.Proofs.YtdaoaedkjoknmaaGreat.Num

namespace Go.Proofs.YtdaoaedkjoknmaaGreat.Num

def lastS : List Rg → Int
  | [] => 0
  | [r] => r.2
  | _ :: r :: l => lastS (r :: l)
theorem lastS_at (l : List Rg) (h : 0 < l.length) : lastS l = (l[l.length - 1]'(by omega)).2 := by
  induction l with
  | nil => exact absurd h (Nat.lt_irrefl 0)
  | cons x l ih =>
    cases l with
    | nil => rfl
    | cons y l =>
      show lastS (y :: l) = _
      rw [ih (Nat.succ_pos _)]
      rfl
theorem lastS_in {l : List Rg} : ∀ {p : Int}, okR p l → (∀ n, hasR l n → n < lastS l) ∧ (l ≠ [] → hasR l (lastS l - 1)) ∧ (l ≠ [] → p < lastS l) := by
  induction l with
  | nil => intro p _; exact ⟨fun n h => absurd h (hasR_nil n), fun h => absurd rfl h, fun h => absurd rfl h⟩
  | cons x l ih =>
    intro p h
    obtain ⟨h1, h2, h3, h4⟩ := h
    cases l with
    | nil =>
      refine ⟨fun n hn => ?_, fun _ => ?_, fun _ => by show p < x.2; omega⟩
      · rcases (hasR_cons x [] n).1 hn with h | h
        · exact h.2
        · exact absurd h (hasR_nil n)
      · exact (hasR_cons x [] _).2 (.inl ⟨by show x.1 ≤ x.2 - 1; omega, by show x.2 - 1 < x.2; omega⟩)
    | cons y l =>
      obtain ⟨i1, i2, i3⟩ := ih h4
      have i4 := i3 (List.cons_ne_nil _ _)
      refine ⟨fun n hn => ?_, fun _ => (hasR_cons _ _ _).2 (.inr (i2 (List.cons_ne_nil _ _))), fun _ => by show p < lastS (y :: l); omega⟩
      show n < lastS (y :: l)
      rcases (hasR_cons x (y :: l) n).1 hn with h | h
      · omega
      · exact i1 n h
theorem lastS_nn {l : List Rg} (h : okR (-1) l) : 0 ≤ lastS l := by
  cases l with
  | nil => exact Int.le_refl _
  | cons x l => have := (lastS_in h).2.2 (List.cons_ne_nil _ _); omega
theorem lastS_le {l : List Rg} {B : Int} (h : okR (-1) l) (hB : 0 ≤ B) : lastS l ≤ B ↔ ∀ n, hasR l n → n < B := by
  constructor
  · intro h1 n hn
    have := (lastS_in h).1 n hn
    omega
  · intro h1
    cases l with
    | nil => exact hB
    | cons x l =>
      have := h1 _ ((lastS_in h).2.1 (List.cons_ne_nil _ _))
      omega
def apartS (s : Sn) : Prop := comR s.pe s.fl = [] ∧ comR s.pe s.ac = [] ∧ comR s.fl s.ac = []
instance (s : Sn) : Decidable (apartS s) := by unfold apartS; infer_instance
def divS (s : Sn) : Prop := apartS s ∧ max (max (lastS s.pe) (lastS s.fl)) (lastS s.ac) = s.rn.en ∧ cntR s.pe + cntR s.fl + cntR s.ac = s.rn.en
instance (s : Sn) : Decidable (divS s) := by unfold divS; infer_instance
theorem comR_nil {a b : List Rg} (ha : okR (-1) a) (hb : okR (-1) b) : comR a b = [] ↔ ∀ n, ¬ (hasR a n ∧ hasR b n) := by
  constructor
  · intro h n hn
    have := (comR_has a b n).2 hn
    rw [h] at this
    exact hasR_nil n this
  · intro h
    refine okR.uniq (comR_ok b hb a (-1) (Int.le_refl _) ha) (show okR (-1) [] from trivial) (fun n => ?_)
    rw [comR_has]
    exact ⟨fun k => absurd k (h n), fun k => absurd k (hasR_nil n)⟩
theorem cnt_whole {l : List Rg} {e : Int} (h : okR (-1) l) (he : 0 ≤ e) (hl : ∀ n, hasR l n → n < e) (hc : cntR l = e) : l = whL e := by
  cases l with
  | nil =>
    have : (0 : Int) = e := hc
    subst this
    rfl
  | cons x l =>
    obtain ⟨h1, h2, h3, h4⟩ := h
    rw [cntR_cons] at hc
    have hx : x.2 ≤ e := by
      have := hl (x.2 - 1) ((hasR_cons x l _).2 (.inl ⟨by omega, by omega⟩))
      omega
    have key : ∀ (m : List Rg) (p : Int), okR p m → p ≤ e → (∀ n, hasR m n → n < e) → cntR m ≤ e - p ∧ (m ≠ [] → cntR m < e - p) := by
      intro m
      induction m with
      | nil => intro p _ hp _; exact ⟨by show (0 : Int) ≤ _; omega, fun h => absurd rfl h⟩
      | cons y m ih =>
        intro p hk _ hn
        obtain ⟨k1, k2, k3, k4⟩ := hk
        have hy : y.2 ≤ e := by
          have := hn (y.2 - 1) ((hasR_cons y m _).2 (.inl ⟨by omega, by omega⟩))
          omega
        have := (ih y.2 k4 hy (fun n a => hn n ((hasR_cons y m n).2 (.inr a)))).1
        rw [cntR_cons]
        exact ⟨by omega, fun _ => by omega⟩
    obtain ⟨a1, a2⟩ := key l x.2 h4 hx (fun n a => hl n ((hasR_cons x l n).2 (.inr a)))
    have hnil : l = [] := Decidable.byContradiction fun h => by
      have := a2 h
      omega
    subst hnil
    have hc' : x.2 - x.1 + 0 = e := hc
    unfold whL
    rw [if_neg (by omega)]
    have e1 : x.1 = 0 := by omega
    have e2 : x.2 = e := by omega
    rw [← e2, ← e1]
theorem apart_sum {s : Sn} (h2 : okR (-1) s.pe) (h3 : okR (-1) s.fl) (h4 : okR (-1) s.ac) (ha : apartS s) :
    okR (-1) (allS s) ∧ (∀ n, hasR (allS s) n ↔ hasR s.pe n ∨ hasR s.fl n ∨ hasR s.ac n) ∧ cntR (allS s) = cntR s.pe + cntR s.fl + cntR s.ac := by
  obtain ⟨k1, k2⟩ := joinS_has s.fl s.pe (-1) (Int.le_refl _) h2 h3
  obtain ⟨k3, k4⟩ := joinS_has s.ac _ (-1) (Int.le_refl _) k1 h4
  obtain ⟨c1, c2⟩ := joinS_cnt s.fl s.pe (-1) (Int.le_refl _) h2 h3
  obtain ⟨c3, c4⟩ := joinS_cnt s.ac _ (-1) (Int.le_refl _) k1 h4
  obtain ⟨a1, a2, a3⟩ := ha
  have d1 := (comR_nil h2 h3).1 a1
  have d2 := (comR_nil h2 h4).1 a2
  have d3 := (comR_nil h3 h4).1 a3
  have e2 := c2.2 d1
  have e3 := c4.2 (fun n hn => by
    rcases (k2 n).1 hn.1 with h | h
    · exact d2 n ⟨h, hn.2⟩
    · exact d3 n ⟨h, hn.2⟩)
  refine ⟨k3, fun n => ?_, ?_⟩
  · unfold allS
    rw [k4, k2, or_assoc]
  · unfold allS
    omega
theorem apart_low {s : Sn} (h2 : okR (-1) s.pe) (h3 : okR (-1) s.fl) (h4 : okR (-1) s.ac) (ha : apartS s) : cntR s.pe + cntR s.fl + cntR s.ac ≤ 4611686018427387904 := by
  obtain ⟨k1, _, k3⟩ := apart_sum h2 h3 h4 ha
  have := (cntR_le (allS s) (-1) k1 (by decide)).2
  omega
theorem divS_list {s : Sn} (h : fitS s) : divS s ↔ listS s := by
  have he : 0 ≤ s.rn.en := by have := h.2.2.2.2.1; omega
  obtain ⟨_, h2, h3, h4, _⟩ := id h
  constructor
  · rintro ⟨ha, hm, hc⟩
    obtain ⟨k1, k2, k3⟩ := apart_sum h2 h3 h4 ha
    refine ⟨cnt_whole k1 he (fun n hn => ?_) (k3.trans hc), hc⟩
    rcases (k2 n).1 hn with a | a | a
    · have := (lastS_in h2).1 n a; omega
    · have := (lastS_in h3).1 n a; omega
    · have := (lastS_in h4).1 n a; omega
  · intro hl
    obtain ⟨u, d1, d2, d3⟩ := (listS_whole h).1 hl
    have l1 : lastS s.pe ≤ s.rn.en := (lastS_le h2 he).2 fun n a => ((u n).1 (.inl a)).2
    have l2 : lastS s.fl ≤ s.rn.en := (lastS_le h3 he).2 fun n a => ((u n).1 (.inr (.inl a))).2
    have l3 : lastS s.ac ≤ s.rn.en := (lastS_le h4 he).2 fun n a => ((u n).1 (.inr (.inr a))).2
    refine ⟨⟨(comR_nil h2 h3).2 d1, (comR_nil h2 h4).2 d2, (comR_nil h3 h4).2 d3⟩, ?_, hl.2⟩
    have n1 := lastS_nn h2
    have n2 := lastS_nn h3
    have n3 := lastS_nn h4
    by_cases h0 : s.rn.en = 0
    · omega
    · rcases (u (s.rn.en - 1)).2 ⟨by omega, by omega⟩ with a | a | a
      · have := (lastS_in h2).1 _ a; omega
      · have := (lastS_in h3).1 _ a; omega
      · have := (lastS_in h4).1 _ a; omega
def agrS (s : Sn) : Prop := s.rn.base = gapR s.ac 0 ∧ max (lastS s.fl) (lastS s.ac) ≤ s.sent
instance (s : Sn) : Decidable (agrS s) := by unfold agrS; infer_instance
def afnS (s : Sn) : Prop := s.fin = (if s.fi = 0 then -1 else s.rn.en) ∧ s.st = folS s
instance (s : Sn) : Decidable (afnS s) := by unfold afnS; infer_instance
theorem agr_end {s : Sn} (h : fitS s) : (s.code = 0 ∧ agrS s ∧ afnS s) ↔ endS s := by
  obtain ⟨_, h2, h3, h4, ⟨h5, h6⟩, _⟩ := id h
  unfold agrS afnS endS
  rw [okR_high h3, okR_high h4, ← lastS_le h3 h5, ← lastS_le h4 h5]
  constructor
  · rintro ⟨a, ⟨b, c⟩, d, e⟩
    refine ⟨b.symm, a, by omega, by omega, ?_, ?_, e⟩
    · constructor
      · intro k; rw [if_pos k] at d; exact d
      · intro k
        by_cases k0 : s.fi = 0
        · exact k0
        · rw [if_neg k0] at d; omega
    · intro k
      by_cases k0 : s.fi = 0
      · rw [if_pos k0] at d; exact absurd d k
      · rw [if_neg k0] at d; exact d
  · rintro ⟨a, b, c, d, e, f, g⟩
    refine ⟨b, ⟨a.symm, by omega⟩, ?_, g⟩
    by_cases k0 : s.fi = 0
    · rw [if_pos k0]; exact e.1 k0
    · rw [if_neg k0]; exact f fun k => k0 (e.2 k)
def hldS (l : List Rg) (q : Rg) : Prop := ∃ r ∈ l, r.1 ≤ q.1 ∧ q.2 ≤ r.2
instance (l : List Rg) (q : Rg) : Decidable (hldS l q) := by unfold hldS; infer_instance
theorem hldS_com {l : List Rg} {q : Rg} (h : okR (-1) l) (h0 : 0 ≤ q.1) (h1 : q.1 < q.2) (h2 : q.2 ≤ 4611686018427387903) : hldS l q ↔ comR l [q] = [q] := by
  have ho : okR (-1) [q] := ⟨by omega, h1, h2, trivial⟩
  have hq : ∀ n, hasR [q] n ↔ q.1 ≤ n ∧ n < q.2 := fun n => by
    rw [hasR_cons]
    exact ⟨fun k => k.resolve_right (hasR_nil n), .inl⟩
  constructor
  · rintro ⟨r, hr, a, b⟩
    refine okR.uniq (comR_ok _ ho l (-1) (Int.le_refl _) h) ho (fun n => ?_)
    rw [comR_has, hq]
    exact ⟨fun k => k.2, fun k => ⟨⟨r, hr, by omega, by omega⟩, k⟩⟩
  · intro hc
    have hall : ∀ n, q.1 ≤ n → n < q.2 → hasR l n := fun n a b => by
      have := (hq n).2 ⟨a, b⟩
      rw [← hc, comR_has] at this
      exact this.1
    clear hc
    revert hall
    have key : ∀ (m : List Rg) (p : Int), okR p m → (∀ n, q.1 ≤ n → n < q.2 → hasR m n) → hldS m q := by
      intro m
      induction m with
      | nil => intro p _ hk; exact absurd (hk q.1 (Int.le_refl _) h1) (hasR_nil _)
      | cons x m ih =>
        intro p hm hk
        obtain ⟨k1, k2, k3, k4⟩ := hm
        rcases (hasR_cons x m q.1).1 (hk q.1 (Int.le_refl _) h1) with a | a
        · refine ⟨x, List.mem_cons_self .., a.1, Int.not_lt.1 fun hlt => ?_⟩
          rcases (hasR_cons x m x.2).1 (hk x.2 (by omega) hlt) with b | b
          · omega
          · have := okR.above k4 _ b; omega
        · have hq1 := okR.above k4 _ a
          obtain ⟨r, hr, b⟩ := ih x.2 k4 (fun n a1 a2 => by
            rcases (hasR_cons x m n).1 (hk n a1 a2) with c | c
            · omega
            · exact c)
          exact ⟨r, List.mem_cons_of_mem _ hr, b⟩
    exact key l (-1) h
def sdI (b : Bool) (s : Sn) (p : Pc) : Sn :=
  if canS b s p then fixS { s with pe := if p.data.size ≠ 0 then remL s.pe (pcR p) else s.pe, fl := if p.data.size ≠ 0 then addL s.fl (pcR p) else s.fl, sent := max s.sent (pcR p).2, fi := if p.fin = true then 2 else s.fi } else s
theorem sdI_eq {b : Bool} {s : Sn} {p : Pc} (h : canS b s p → p.data.size = 0 → (pcR p).2 ≤ s.sent) : sdI b s p = sdS b s p := by
  unfold sdI sdS
  by_cases hc : canS b s p
  · rw [if_pos hc, if_pos hc]
    by_cases h0 : p.data.size = 0
    · have hz : ¬ p.data.size ≠ 0 := fun e => e h0
      have h1 := h hc h0
      simp only [if_neg hz]
      rw [show max s.sent (pcR p).2 = s.sent by omega]
    · have hz : p.data.size ≠ 0 := h0
      simp only [if_pos hz]
  · rw [if_neg hc, if_neg hc]
theorem nx_sent {s : Sn} (h : docSn s) {m l : Int} {p : Pc} (hp : nxS true s m l = some p) : sdI true s p = sdS true s p := by
  refine sdI_eq fun hc h0 => ?_
  obtain ⟨hf, hw, he⟩ := h.low (by have := hc.1.2.1; omega)
  have hen : (pcR p).2 ≤ s.rn.en := by
    have := hc.1.2.2.1.2.2.1
    show p.off + (p.data.size : Int) ≤ _
    omega
  have hpe : s.pe = [] := by
    cases hpe : s.pe with
    | nil => rfl
    | cons r L =>
      obtain ⟨n1, _, _, _, _, _⟩ := nx_ok h hp
      unfold nxS at hp
      rw [if_neg (fun e => e ⟨rfl, hc.1.2.1⟩), hpe] at hp
      dsimp only at hp
      by_cases hcc : min r.2 l ≤ r.1 ∨ cutS r m l ≤ r.1
      · rw [if_pos hcc] at hp; cases hp
      · rw [if_neg hcc] at hp
        injection hp with hp
        have hm : ∀ n, r.1 ≤ n → n < r.2 → hasR s.pe n := fun n a b => by rw [hpe]; exact ⟨r, List.mem_cons_self .., a, b⟩
        have hq := cutS_in (r := r) (m := m) (l := l) (by omega)
        have l1 := pe_low hw he (hm r.1 (Int.le_refl _) (by omega)) hf.2.2.2.1
        have l2 := pe_low hw he (hm (r.2 - 1) (by omega) (by omega)) hf.2.2.2.1
        have hcp : canP s.rn r.1 (cutS r m l - r.1) := ⟨hf.1, l1.1, by omega, by have := hf.1.2.2.2.2.2.2; omega, by omega⟩
        have hsz := pkR_size hcp
        subst hp
        have h0' : (pkR s.rn r.1 (cutS r m l - r.1)).size = 0 := h0
        omega
  have h5 := hf.2.2.2.2.1
  by_cases h9 : s.rn.en = 0
  · omega
  · rcases (hw.1 (s.rn.en - 1)).2 ⟨by omega, by omega⟩ with a | a | a
    · rw [hpe] at a; exact absurd a (hasR_nil _)
    · have := (okR_high hf.2.2.1).1 he.2.2.1 _ a; omega
    · have := (okR_high hf.2.2.2.1).1 he.2.2.2.1 _ a; omega
end Go.Proofs.YtdaoaedkjoknmaaGreat.Num

namespace Go.Proofs.YtdaoaedkjoknmaaGreat
open Go.RowKit Go.Deep Go.Proofs.YtdaoaedkjoknmaaGreat.Num

theorem at_ok (A : Option Addr) (len cap : Nat) (w : World) (hl : len ≤ 1048576) (hc : Code w w.heap.size A len) (i : Int) (h0 : 0 ≤ i) (h1 : i ≤ 1000) :
    ∃ x : Int, (0 ≤ x ∧ x ≤ 255) ∧ ∀ W, Below w.heap.size w W → Calls Tryz.prog 8 #[.slice A len cap, .int .i64 i] W fun e w' => e = .returned (.int .i64 x) ∧ W = w' := by
  obtain ⟨j, rfl⟩ := Int.eq_ofNat_of_zero_le h0
  by_cases h : j < len
  · obtain ⟨b, off, n, rfl, hb, n0, n1, hcell⟩ := hc j h
    refine ⟨n, ⟨n0, n1⟩, fun W hbw => ?_⟩
    have hcw : W.cell? ⟨b, off + j, none⟩ = some (.int .u8 n) := (hbw.cell (p := ⟨b, off + j, none⟩) hb).trans hcell
    have hlt : (j : Int) < (len : Int) := by omega
    clear hbw hcell hc
    go_enter Tryz.func8, Tryz.ntmps8
    go_wp2
    go_ret
    exact ⟨rfl, rfl⟩
  · refine ⟨((j : Int) * 37 + (len : Int) * 11).tmod 256, ?_, fun W _ => ?_⟩
    · rw [Int.tmod_eq_emod_of_nonneg (by omega)]
      omega
    · have hlt : ¬ (j : Int) < (len : Int) := by omega
      have hn0 : ¬ (256 : Int) = 0 := by decide
      have e1 : wrap64 ((j : Int) * 37) = (j : Int) * 37 := by unfold wrap64; omega
      have e2 : wrap64 ((len : Int) * 11) = (len : Int) * 11 := by unfold wrap64; omega
      have e3 : wrap64 ((j : Int) * 37 + (len : Int) * 11) = (j : Int) * 37 + (len : Int) * 11 := by unfold wrap64; omega
      clear hc
      go_enter Tryz.func8, Tryz.ntmps8
      go_wp2
      go_ret
      exact ⟨rfl, rfl⟩

structure IrX (w : World) (x : Rc) (u : Value) (W : World) : Prop where
  b : BoxR W w.heap.size x.st x.buf.next u x.fin x.hi x.code
  o : BoxR W (w.heap.size + 1) 0 0 (.slice none 0 0) 0 0 0
  bl : Below w.heap.size w W
theorem IrX.start (w : World) (r : Rc) (v : Value) : IrX w r v ((w.alloc (.cells (rcC r.st r.buf.next v r.fin r.hi r.code) 40)).alloc (.cells (rcC 0 0 (.slice none 0 0) 0 0 0) 40)) := by
  have h1 : ∀ o1, (w.alloc o1).heap.size = w.heap.size + 1 := fun _ => by simp
  refine ⟨(BoxR.new w _ _ _ _ _ _).alloc _, ?_, ((Below.refl _ _).alloc (Nat.le_refl _) _).alloc (by rw [h1]; exact Nat.le_succ _) _⟩
  have h := BoxR.new (w.alloc (.cells (rcC r.st r.buf.next v r.fin r.hi r.code) 40)) 0 0 (.slice none 0 0) 0 0 0
  rw [h1] at h
  exact h
theorem IrX.next {w : World} {x : Rc} {u : Value} {W W' : World} (h : IrX w x u W) (hb : Below W.heap.size W W') : IrX w x u W' :=
  ⟨h.b.below hb h.b.lt, h.o.below hb h.o.lt, h.bl.trans (hb.mono h.bl.size)⟩
theorem IrX.alloc {w : World} {x : Rc} {u : Value} {W : World} (h : IrX w x u W) (o : Obj) : IrX w x u (W.alloc o) := h.next ((Below.refl _ _).alloc (Nat.le_refl _) _)
theorem IrX.put {w : World} {x x' : Rc} {u u' : Value} {W : World} (h : IrX w x u W) (k : Nat) (y : Value) (hb : BoxR (W.setCell ⟨w.heap.size, k, none⟩ y) w.heap.size x'.st x'.buf.next u' x'.fin x'.hi x'.code) : IrX w x' u' (W.setCell ⟨w.heap.size, k, none⟩ y) :=
  ⟨hb, h.o.other w.heap.size k y (by omega), h.bl.setCell (p := ⟨w.heap.size, k, none⟩) (Nat.le_refl _) y⟩
theorem IrX.put0 {w : World} {x : Rc} {u : Value} {W : World} (h : IrX w x u W) (y : Int) : IrX w ⟨y, x.buf, x.fin, x.hi, x.code⟩ u (W.setCell ⟨w.heap.size, 0, none⟩ (.int .i64 y)) := h.put 0 _ (h.b.set0 y)
theorem IrX.put3 {w : World} {x : Rc} {u : Value} {W : World} (h : IrX w x u W) (y : Int) : IrX w ⟨x.st, x.buf, y, x.hi, x.code⟩ u (W.setCell ⟨w.heap.size, 3, none⟩ (.int .i64 y)) := h.put 3 _ (h.b.set3 y)
theorem IrX.put4 {w : World} {x : Rc} {u : Value} {W : World} (h : IrX w x u W) (y : Int) : IrX w ⟨x.st, x.buf, x.fin, y, x.code⟩ u (W.setCell ⟨w.heap.size, 4, none⟩ (.int .i64 y)) := h.put 4 _ (h.b.set4 y)
theorem IrX.putB {w : World} {x : Rc} {u : Value} {W : World} (h : IrX w x u W) (n : Int) (l : List Ch) (v : Value) : IrX w ⟨x.st, ⟨n, l⟩, x.fin, x.hi, x.code⟩ v ((W.setCell ⟨w.heap.size, 1, none⟩ (.int .i64 n)).setCell ⟨w.heap.size, 2, none⟩ v) :=
  (h.put (x' := ⟨x.st, ⟨n, l⟩, x.fin, x.hi, x.code⟩) 1 _ (h.b.set1 n)).put 2 _ ((h.b.set1 n).set2 v)
theorem OwnX.apart {W : World} {base : Nat} {v : Value} {l : List Ch} (h : OwnX W base v l) (g k : Nat) (y : Value) (hg : g < base) : OwnX (W.setCell ⟨g, k, none⟩ y) base v l := by
  refine h.kept (only_setC W g k y) ?_
  cases hv : v.ownBlock with
  | none => exact .inl rfl
  | some q => exact .inr (fun e => by have := (h.lt q hv).1; injection e; omega)
theorem IrX.out {w : World} {x : Rc} {u : Value} {W : World} (h : IrX w x u W) (s n : Int) (v : Value) (f hi c : Int) (l : List Ch) (ho : OwnX W (w.heap.size + 2) v l) :
    BoxR ((((((W.setCell ⟨w.heap.size + 1, 0, none⟩ (.int .i64 s)).setCell ⟨w.heap.size + 1, 1, none⟩ (.int .i64 n)).setCell ⟨w.heap.size + 1, 2, none⟩ v).setCell ⟨w.heap.size + 1, 3, none⟩ (.int .i64 f)).setCell ⟨w.heap.size + 1, 4, none⟩ (.int .i64 hi)).setCell ⟨w.heap.size + 1, 5, none⟩ (.int .i64 c)) (w.heap.size + 1) s n v f hi c
    ∧ OwnX ((((((W.setCell ⟨w.heap.size + 1, 0, none⟩ (.int .i64 s)).setCell ⟨w.heap.size + 1, 1, none⟩ (.int .i64 n)).setCell ⟨w.heap.size + 1, 2, none⟩ v).setCell ⟨w.heap.size + 1, 3, none⟩ (.int .i64 f)).setCell ⟨w.heap.size + 1, 4, none⟩ (.int .i64 hi)).setCell ⟨w.heap.size + 1, 5, none⟩ (.int .i64 c)) w.heap.size v l
    ∧ Below w.heap.size w ((((((W.setCell ⟨w.heap.size + 1, 0, none⟩ (.int .i64 s)).setCell ⟨w.heap.size + 1, 1, none⟩ (.int .i64 n)).setCell ⟨w.heap.size + 1, 2, none⟩ v).setCell ⟨w.heap.size + 1, 3, none⟩ (.int .i64 f)).setCell ⟨w.heap.size + 1, 4, none⟩ (.int .i64 hi)).setCell ⟨w.heap.size + 1, 5, none⟩ (.int .i64 c)) := by
  have hq : w.heap.size ≤ w.heap.size + 1 := Nat.le_succ _
  have hg : w.heap.size + 1 < w.heap.size + 2 := Nat.lt_succ_self _
  refine ⟨(((((h.o.set0 _).set1 _).set2 _).set3 _).set4 _).set5 _, ?_, ?_⟩
  · exact ((((((ho.apart _ 0 _ hg).apart _ 1 _ hg).apart _ 2 _ hg).apart _ 3 _ hg).apart _ 4 _ hg).apart _ 5 _ hg).weaken (by omega)
  · exact (((((h.bl.setCell (p := ⟨_, _, _⟩) hq _).setCell (p := ⟨_, _, _⟩) hq _).setCell (p := ⟨_, _, _⟩) hq _).setCell (p := ⟨_, _, _⟩) hq _).setCell (p := ⟨_, _, _⟩) hq _).setCell (p := ⟨_, _, _⟩) hq _

def stV (s : Int) : Value :=
  if s = 0 then .iface 135 (.agg #[]) else if s = 1 then .iface 136 (.agg #[]) else if s = 2 then .iface 144 (.agg #[]) else if s = 3 then .iface 171 (.agg #[]) else if s = 4 then .iface 145 (.agg #[]) else if s = 5 then .iface 172 (.agg #[]) else .nilIface
theorem stV0 {s : Int} (h : s = 0) : stV s = .iface 135 (.agg #[]) := by subst h; rfl
theorem stV1 {s : Int} (h : s = 1) : stV s = .iface 136 (.agg #[]) := by subst h; rfl
theorem stV2 {s : Int} (h : s = 2) : stV s = .iface 144 (.agg #[]) := by subst h; rfl
theorem stV3 {s : Int} (h : s = 3) : stV s = .iface 171 (.agg #[]) := by subst h; rfl
theorem stV4 {s : Int} (h : s = 4) : stV s = .iface 145 (.agg #[]) := by subst h; rfl
theorem stV5 {s : Int} (h : s = 5) : stV s = .iface 172 (.agg #[]) := by subst h; rfl
theorem stVn {s : Int} (h : ¬ (0 ≤ s ∧ s ≤ 5)) : stV s = .nilIface := by
  unfold stV
  rw [if_neg (by omega)]
  rw [if_neg (by omega)]
  rw [if_neg (by omega)]
  rw [if_neg (by omega)]
  rw [if_neg (by omega)]
  rw [if_neg (by omega)]
theorem istate (s : Int) (w : World) :
    Calls Tryz.prog 104 #[.int .i64 s] w fun e w' => e = .returned (.tuple #[stV s, .bool (decide (0 ≤ s ∧ s ≤ 5))]) ∧ w' = w := by
  by_cases h0 : s = 0
  · rw [stV0 h0, decide_eq_true (show 0 ≤ s ∧ s ≤ 5 by omega)]
    have d0 : (s == 0) = true := by simpa using h0
    clear h0
    go_enter Tryz.func104, Tryz.ntmps104
    go_wp2
    go_ret2
    exact ⟨rfl, rfl⟩
  have d0 : (s == 0) = false := by simpa using h0
  by_cases h1 : s = 1
  · rw [stV1 h1, decide_eq_true (show 0 ≤ s ∧ s ≤ 5 by omega)]
    have d1 : (s == 1) = true := by simpa using h1
    clear h0 h1
    go_enter Tryz.func104, Tryz.ntmps104
    go_wp2
    go_ret2
    exact ⟨rfl, rfl⟩
  have d1 : (s == 1) = false := by simpa using h1
  by_cases h2 : s = 2
  · rw [stV2 h2, decide_eq_true (show 0 ≤ s ∧ s ≤ 5 by omega)]
    have d2 : (s == 2) = true := by simpa using h2
    clear h0 h1 h2
    go_enter Tryz.func104, Tryz.ntmps104
    go_wp2
    go_ret2
    exact ⟨rfl, rfl⟩
  have d2 : (s == 2) = false := by simpa using h2
  by_cases h3 : s = 3
  · rw [stV3 h3, decide_eq_true (show 0 ≤ s ∧ s ≤ 5 by omega)]
    have d3 : (s == 3) = true := by simpa using h3
    clear h0 h1 h2 h3
    go_enter Tryz.func104, Tryz.ntmps104
    go_wp2
    go_ret2
    exact ⟨rfl, rfl⟩
  have d3 : (s == 3) = false := by simpa using h3
  by_cases h4 : s = 4
  · rw [stV4 h4, decide_eq_true (show 0 ≤ s ∧ s ≤ 5 by omega)]
    have d4 : (s == 4) = true := by simpa using h4
    clear h0 h1 h2 h3 h4
    go_enter Tryz.func104, Tryz.ntmps104
    go_wp2
    go_ret2
    exact ⟨rfl, rfl⟩
  have d4 : (s == 4) = false := by simpa using h4
  by_cases h5 : s = 5
  · rw [stV5 h5, decide_eq_true (show 0 ≤ s ∧ s ≤ 5 by omega)]
    have d5 : (s == 5) = true := by simpa using h5
    clear h0 h1 h2 h3 h4 h5
    go_enter Tryz.func104, Tryz.ntmps104
    go_wp2
    go_ret2
    exact ⟨rfl, rfl⟩
  have d5 : (s == 5) = false := by simpa using h5
  rw [stVn (by omega), decide_eq_false (show ¬ (0 ≤ s ∧ s ≤ 5) by omega)]
  clear h0 h1 h2 h3 h4 h5
  go_enter Tryz.func104, Tryz.ntmps104
  go_wp2
  go_ret2
  exact ⟨rfl, rfl⟩
theorem magrees0 (n : Nat) (w : World) : (method (n + 1) 135 (.agg #[]) "loop.example/g01633/impl.agrees").run Tryz.prog w = .ok (187, .agg #[]) w := by kernel_rfl
theorem magrees1 (n : Nat) (w : World) : (method (n + 1) 136 (.agg #[]) "loop.example/g01633/impl.agrees").run Tryz.prog w = .ok (189, .agg #[]) w := by kernel_rfl
theorem magrees2 (n : Nat) (w : World) : (method (n + 1) 144 (.agg #[]) "loop.example/g01633/impl.agrees").run Tryz.prog w = .ok (191, .agg #[]) w := by kernel_rfl
theorem magrees3 (n : Nat) (w : World) : (method (n + 1) 171 (.agg #[]) "loop.example/g01633/impl.agrees").run Tryz.prog w = .ok (195, .agg #[]) w := by kernel_rfl
theorem magrees4 (n : Nat) (w : World) : (method (n + 1) 145 (.agg #[]) "loop.example/g01633/impl.agrees").run Tryz.prog w = .ok (193, .agg #[]) w := by kernel_rfl
theorem magrees5 (n : Nat) (w : World) : (method (n + 1) 172 (.agg #[]) "loop.example/g01633/impl.agrees").run Tryz.prog w = .ok (197, .agg #[]) w := by kernel_rfl
theorem as0_0 (w : World) : (Instr.typeAssert (.iface 135 (.agg #[])) 130 135 true).run Tryz.prog w = .ok (.tuple #[.agg #[], .bool true]) w := by kernel_rfl
theorem as0_1 (w : World) : (Instr.typeAssert (.iface 135 (.agg #[])) 130 136 true).run Tryz.prog w = .ok (.tuple #[.agg #[], .bool false]) w := by kernel_rfl
theorem as0_2 (w : World) : (Instr.typeAssert (.iface 135 (.agg #[])) 130 144 true).run Tryz.prog w = .ok (.tuple #[.agg #[], .bool false]) w := by kernel_rfl
theorem as0_4 (w : World) : (Instr.typeAssert (.iface 135 (.agg #[])) 130 145 true).run Tryz.prog w = .ok (.tuple #[.agg #[], .bool false]) w := by kernel_rfl
theorem as1_0 (w : World) : (Instr.typeAssert (.iface 136 (.agg #[])) 130 135 true).run Tryz.prog w = .ok (.tuple #[.agg #[], .bool false]) w := by kernel_rfl
theorem as1_1 (w : World) : (Instr.typeAssert (.iface 136 (.agg #[])) 130 136 true).run Tryz.prog w = .ok (.tuple #[.agg #[], .bool true]) w := by kernel_rfl
theorem as1_2 (w : World) : (Instr.typeAssert (.iface 136 (.agg #[])) 130 144 true).run Tryz.prog w = .ok (.tuple #[.agg #[], .bool false]) w := by kernel_rfl
theorem as1_4 (w : World) : (Instr.typeAssert (.iface 136 (.agg #[])) 130 145 true).run Tryz.prog w = .ok (.tuple #[.agg #[], .bool false]) w := by kernel_rfl
theorem as2_0 (w : World) : (Instr.typeAssert (.iface 144 (.agg #[])) 130 135 true).run Tryz.prog w = .ok (.tuple #[.agg #[], .bool false]) w := by kernel_rfl
theorem as2_1 (w : World) : (Instr.typeAssert (.iface 144 (.agg #[])) 130 136 true).run Tryz.prog w = .ok (.tuple #[.agg #[], .bool false]) w := by kernel_rfl
theorem as2_2 (w : World) : (Instr.typeAssert (.iface 144 (.agg #[])) 130 144 true).run Tryz.prog w = .ok (.tuple #[.agg #[], .bool true]) w := by kernel_rfl
theorem as2_4 (w : World) : (Instr.typeAssert (.iface 144 (.agg #[])) 130 145 true).run Tryz.prog w = .ok (.tuple #[.agg #[], .bool false]) w := by kernel_rfl
theorem as3_0 (w : World) : (Instr.typeAssert (.iface 171 (.agg #[])) 130 135 true).run Tryz.prog w = .ok (.tuple #[.agg #[], .bool false]) w := by kernel_rfl
theorem as3_1 (w : World) : (Instr.typeAssert (.iface 171 (.agg #[])) 130 136 true).run Tryz.prog w = .ok (.tuple #[.agg #[], .bool false]) w := by kernel_rfl
theorem as3_2 (w : World) : (Instr.typeAssert (.iface 171 (.agg #[])) 130 144 true).run Tryz.prog w = .ok (.tuple #[.agg #[], .bool false]) w := by kernel_rfl
theorem as3_4 (w : World) : (Instr.typeAssert (.iface 171 (.agg #[])) 130 145 true).run Tryz.prog w = .ok (.tuple #[.agg #[], .bool false]) w := by kernel_rfl
theorem as4_0 (w : World) : (Instr.typeAssert (.iface 145 (.agg #[])) 130 135 true).run Tryz.prog w = .ok (.tuple #[.agg #[], .bool false]) w := by kernel_rfl
theorem as4_1 (w : World) : (Instr.typeAssert (.iface 145 (.agg #[])) 130 136 true).run Tryz.prog w = .ok (.tuple #[.agg #[], .bool false]) w := by kernel_rfl
theorem as4_2 (w : World) : (Instr.typeAssert (.iface 145 (.agg #[])) 130 144 true).run Tryz.prog w = .ok (.tuple #[.agg #[], .bool false]) w := by kernel_rfl
theorem as4_4 (w : World) : (Instr.typeAssert (.iface 145 (.agg #[])) 130 145 true).run Tryz.prog w = .ok (.tuple #[.agg #[], .bool true]) w := by kernel_rfl
theorem as5_0 (w : World) : (Instr.typeAssert (.iface 172 (.agg #[])) 130 135 true).run Tryz.prog w = .ok (.tuple #[.agg #[], .bool false]) w := by kernel_rfl
theorem as5_1 (w : World) : (Instr.typeAssert (.iface 172 (.agg #[])) 130 136 true).run Tryz.prog w = .ok (.tuple #[.agg #[], .bool false]) w := by kernel_rfl
theorem as5_2 (w : World) : (Instr.typeAssert (.iface 172 (.agg #[])) 130 144 true).run Tryz.prog w = .ok (.tuple #[.agg #[], .bool false]) w := by kernel_rfl
theorem as5_4 (w : World) : (Instr.typeAssert (.iface 172 (.agg #[])) 130 145 true).run Tryz.prog w = .ok (.tuple #[.agg #[], .bool false]) w := by kernel_rfl
theorem as6_0 (w : World) : (Instr.typeAssert .nilIface 130 135 true).run Tryz.prog w = .ok (.tuple #[.agg #[], .bool false]) w := by kernel_rfl
theorem as6_1 (w : World) : (Instr.typeAssert .nilIface 130 136 true).run Tryz.prog w = .ok (.tuple #[.agg #[], .bool false]) w := by kernel_rfl
theorem as6_2 (w : World) : (Instr.typeAssert .nilIface 130 144 true).run Tryz.prog w = .ok (.tuple #[.agg #[], .bool false]) w := by kernel_rfl
theorem as6_4 (w : World) : (Instr.typeAssert .nilIface 130 145 true).run Tryz.prog w = .ok (.tuple #[.agg #[], .bool false]) w := by kernel_rfl

def InRc2 (w : World) (r : Rc) (A : Option Addr) (cap : Nat) (s : Rc) (A' : Option Addr) (cap' : Nat) (W : World) : Prop :=
  InRc w w.heap.size r A cap W ∧ InRc (w.alloc (.cells (rcC r.st r.buf.next (.slice A r.buf.chs.length cap) r.fin r.hi r.code) 40)) (w.heap.size + 1) s A' cap' W
end Go.Proofs.YtdaoaedkjoknmaaGreat
