/-
  Contracts and lemmas for the law on draining.
-/
import Derived.Test.YtdaoaedkjoknmaaGreatDrZ0
import Derived.Below
import Derived.Test.YtdaoaedkjoknmaaGreatRows
import Derived.WalkKit
import Derived.WalkSpells
import Derived.WalkLawsBesides
import Derived.ProofKit
import Derived.IntWalk
import Derived.Lib.Hide
import Derived.Laws.IdiomStrings
import Derived.Laws.Concat
import Derived.Deep.OwnRows
import Derived.Laws.Bits128
import Derived.Laws.BitsAllLaws
import Derived.Laws.OwnMore
import Derived.OwnWalk
import Derived.Deep.QuietTactic
import Derived.BigQuiet
import Derived.Deep.DeepCutAuto
import Derived.Deep.CutBlock
import Derived.Deep.RegionHeld3
import Derived.Deep.RegionLaw
import Derived.Laws.Rows
import Derived.Test.YtdaoaedkjoknmaaGreatProg
import Derived.Conc.MuLone
import Derived.KernelRfl
set_option maxRecDepth 1000000
set_option maxHeartbeats 8000000
namespace Go.Proofs.YtdaoaedkjoknmaaGreat.Num

def dn : Nat → Nat → Nat
  | 0, n => n
  | j + 1, n => dn j n / 256
def fixB : Nat → Nat → List UInt8
  | 0, _ => []
  | k + 1, n => fixB k (n / 256) ++ [UInt8.ofNat (n % 256)]
def val256 : List UInt8 → Nat → Nat
  | [], m => m
  | b :: l, m => val256 l (m * 256 + b.toNat)
def encV : Nat → Nat → List UInt8
  | 0, n => [UInt8.ofNat n]
  | f + 1, n => if n < 128 then [UInt8.ofNat n] else UInt8.ofNat (128 + n % 128) :: encV f (n / 128)
def vval : List UInt8 → Nat
  | [] => 0
  | b :: l => b.toNat % 128 + 128 * vval l
def okV : List UInt8 → Prop
  | [] => False
  | [b] => b.toNat < 128
  | b :: c :: l => 128 ≤ b.toNat ∧ 0 < vval (c :: l) ∧ okV (c :: l)
def IsDec (l : List UInt8) (n k : Nat) : Prop :=
  (1 ≤ k ∧ k ≤ 7 ∧ k ≤ l.length ∧ okV (l.take k) ∧ n = vval (l.take k) ∧ ∀ j, 1 ≤ j → j < k → ¬ okV (l.take j)) ∨
  (n = 0 ∧ k = 0 ∧ ∀ j, 1 ≤ j → j ≤ 7 → j ≤ l.length → ¬ okV (l.take j))
def hexD (k : Nat) : UInt8 := if k < 10 then UInt8.ofNat (48 + k) else UInt8.ofNat (87 + k)
def hexL : List UInt8 → List UInt8
  | [] => []
  | b :: l => hexD (b.toNat / 16) :: hexD (b.toNat % 16) :: hexL l
def unD (b : UInt8) : Option Nat :=
  if 48 ≤ b.toNat ∧ b.toNat ≤ 57 then some (b.toNat - 48) else if 97 ≤ b.toNat ∧ b.toNat ≤ 102 then some (b.toNat - 87) else none
def unL : List UInt8 → Option (List UInt8)
  | a :: b :: l => match unD a, unD b, unL l with
    | some x, some y, some r => some (UInt8.ofNat (16 * x + y) :: r)
    | _, _, _ => none
  | _ => some []
def hexR (l : List UInt8) : List UInt8 := if l.length % 2 = 0 then (unL l).getD [] else []
def hexOk (l : List UInt8) : Bool := if l.length % 2 = 0 then (unL l).isSome else false
end Go.Proofs.YtdaoaedkjoknmaaGreat.Num

namespace Go.Proofs.YtdaoaedkjoknmaaGreat
open Go.RowKit Go.Deep
def cellsB (l : List UInt8) : Array Value := (l.map fun b => Value.int .u8 (b.toNat : Int)).toArray
theorem cellsB_size (l : List UInt8) : (cellsB l).size = l.length := by simp [cellsB]
theorem cellsB_at (l : List UInt8) (j : Nat) (h : j < l.length) : (cellsB l)[j]? = some (.int .u8 (l[j].toNat : Int)) := by
  simp [cellsB, h]
theorem cellsB_made (n : Nat) : Go.madeCells #[Value.int .u8 0] n = cellsB (List.replicate n 0) := by
  apply Array.ext
  · simp [cellsB, size_madeCells]
  · intro i h1 h2
    simp [Go.madeCells, cellsB, Nat.mod_one]
theorem infoB : (Tryz.prog.info? 5).map (fun i => (i.zero, i.size, i.bytes)) = some (some (.int .u8 0), 1, 1) := by kernel_rfl
theorem conv_row (W : World) (g : Nat) (l : List UInt8) (cap : Nat) (hc : ∀ j, j < l.length → W.cell? ⟨g, j, none⟩ = (cellsB l)[j]?) :
    (convert 22 9 (.slice (some ⟨g, 0, none⟩) l.length cap)).run Tryz.prog W = .ok (.string ⟨l.toArray⟩) W := by
  refine run_convert_bytes_back (P := Tryz.prog) W 22 9 5 ⟨g, 0, none⟩ cap l Tryz.underlying22 Tryz.underlying5 Tryz.underlying9 (fun j hj => ?_)
  have e : (⟨g, 0, none⟩ : Addr).add j = ⟨g, j, none⟩ := by simp [Addr.add]; omega
  rw [e, hc j hj, cellsB_at l j hj]
theorem make_row (n : Nat) (hn : n ≤ 281474976710656) (W : World) :
    (Instr.makeSlice 22 (.int .i64 (n : Int)) (.int .i64 (n : Int))).run Tryz.prog W = .ok (.slice (some ⟨W.heap.size, 0, none⟩) n n) (W.alloc (.cells (cellsB (List.replicate n 0)) 5)) := by
  rw [← cellsB_made]
  exact run_make_row' 22 5 (.int .u8 0) 1 Tryz.underlying22 infoB rfl .i64 .i64 n (by omega) (by omega) W
end Go.Proofs.YtdaoaedkjoknmaaGreat

namespace Go.Proofs.YtdaoaedkjoknmaaGreat
open Go.RowKit Go.Deep Go.Proofs.YtdaoaedkjoknmaaGreat.Num

def valsB (l : List UInt8) : List Value := l.map fun b => Value.int .u8 (b.toNat : Int)
def OwnB (w : World) (base : Nat) (v : Value) (l : List UInt8) : Prop := w.ownsRow base 5 1 v l.length (valsB l)

def Cur (w : World) (g : Nat) (A : Option Addr) (len cap i : Nat) (h : Int) : Prop := w.heap[g]? = some (.cells #[.slice A len cap, .int .i64 (i : Int), .int .i64 h] 180 (0, 0))
def Code (w : World) (B : Nat) (A : Option Addr) (len : Nat) : Prop := ∀ j, j < len → ∃ b off n, A = some ⟨b, off, none⟩ ∧ b < B ∧ (0 : Int) ≤ n ∧ n ≤ 255 ∧ w.cell? ⟨b, off + j, none⟩ = some (.int .u8 n)
theorem only_below {a b : World} {g B : Nat} (h : a.grownBy b (some g)) (hB : B ≤ g) (hl : B ≤ a.heap.size) : Below B a b :=
  ⟨h.os, h.tape, h.output, h.size, fun k hk => h.block k (by omega) (fun e => by have := Option.some.inj e; omega)⟩

def NumPost (lo hi : Int) (g : Nat) (A : Option Addr) (len cap : Nat) (w : World) (e : Ending) (w' : World) : Prop :=
  ∃ (x : Int) (i' : Nat) (h' : Int), e = .returned (.int .i64 x) ∧ lo ≤ x ∧ x ≤ hi ∧ i' ≤ len ∧ Cur w' g A len cap i' h' ∧ w.grownBy w' (some g)

def Draw (w : World) (g B : Nat) (A : Option Addr) (len cap : Nat) : Prop := B ≤ g ∧ len ≤ maxLen ∧ Code w B A len ∧ ∃ (i : Nat) (h : Int), i ≤ len ∧ Cur w g A len cap i h
def NumP (lo hi : Int) (g B : Nat) (A : Option Addr) (len cap : Nat) (w : World) (e : Ending) (w' : World) : Prop :=
  ∃ x : Int, e = .returned (.int .i64 x) ∧ lo ≤ x ∧ x ≤ hi ∧ Draw w' g B A len cap ∧ w.grownBy w' (some g)


def NewP (A : Option Addr) (len cap : Nat) (w : World) (e : Ending) (w' : World) : Prop :=
  ∃ g : Nat, e = .returned (.pointer (some ⟨g, 0, none⟩)) ∧ w.heap.size ≤ g ∧ Draw w' g w.heap.size A len cap ∧ Below w.heap.size w w'

def TextP (most : Nat) (g B : Nat) (A : Option Addr) (len cap : Nat) (w : World) (e : Ending) (w' : World) : Prop :=
  ∃ l : List UInt8, e = .returned (.string ⟨l.toArray⟩) ∧ l.length ≤ most ∧ Draw w' g B A len cap ∧ w.grownBy w' (some g)

def IntP (w : World) (e : Ending) (w' : World) : Prop := ∃ x : Int, e = .returned (.int .i64 x) ∧ -9223372036854775808 ≤ x ∧ x ≤ 9223372036854775807 ∧ Below w.heap.size w w'
def StrP (most : Nat) (w : World) (e : Ending) (w' : World) : Prop := ∃ l : List UInt8, e = .returned (.string ⟨l.toArray⟩) ∧ l.length ≤ most ∧ Below w.heap.size w w'
def IntsP (w : World) (e : Ending) (w' : World) : Prop := ∃ x y : Int, e = .returned (.tuple #[.int .i64 x, .int .i64 y]) ∧ -9223372036854775808 ≤ x ∧ x ≤ 9223372036854775807 ∧ -1 ≤ y ∧ y ≤ 8 ∧ Below w.heap.size w w'
end Go.Proofs.YtdaoaedkjoknmaaGreat

namespace Go.Proofs.YtdaoaedkjoknmaaGreat.Num

abbrev Rg := Int × Int
def fineR (r : Rg) : Prop := 0 ≤ r.1 ∧ r.1 < r.2 ∧ r.2 ≤ 4611686018427387903
instance (r : Rg) : Decidable (fineR r) := by unfold fineR; infer_instance
def okR : Int → List Rg → Prop
  | _, [] => True
  | p, x :: l => p < x.1 ∧ x.1 < x.2 ∧ x.2 ≤ 4611686018427387903 ∧ okR x.2 l
instance decOkR : (p : Int) → (l : List Rg) → Decidable (okR p l)
  | _, [] => isTrue trivial
  | p, x :: l => by
    unfold okR
    have := decOkR x.2 l
    infer_instance
theorem okR.weaker {p q : Int} {l : List Rg} (h : okR p l) (hq : q ≤ p) : okR q l := by
  cases l with
  | nil => trivial
  | cons x l => exact ⟨by have := h.1; omega, h.2⟩
theorem okR.prefix {a b : List Rg} : ∀ {p : Int}, okR p (a ++ b) → okR p a := by
  induction a with
  | nil => intro p _; trivial
  | cons x a ih =>
    intro p h
    exact ⟨h.1, h.2.1, h.2.2.1, ih h.2.2.2⟩
theorem okR.snoc (a : List Rg) (y x : Rg) : ∀ p, okR p (a ++ [y] ++ [x]) ↔ okR p (a ++ [y]) ∧ y.2 < x.1 ∧ x.1 < x.2 ∧ x.2 ≤ 4611686018427387903 := by
  induction a with
  | nil =>
    intro p
    show (p < y.1 ∧ y.1 < y.2 ∧ y.2 ≤ _ ∧ (y.2 < x.1 ∧ x.1 < x.2 ∧ x.2 ≤ _ ∧ True)) ↔ (p < y.1 ∧ y.1 < y.2 ∧ y.2 ≤ _ ∧ True) ∧ _
    simp only [and_true, and_assoc]
  | cons z a ih =>
    intro p
    show (p < z.1 ∧ z.1 < z.2 ∧ z.2 ≤ _ ∧ okR z.2 (a ++ [y] ++ [x])) ↔ (p < z.1 ∧ z.1 < z.2 ∧ z.2 ≤ _ ∧ okR z.2 (a ++ [y])) ∧ _
    rw [ih]
    simp only [and_assoc]
theorem okR.at_zero (l : List Rg) (h : 0 < l.length) : okR (-1) (l.take 1) ↔ fineR l[0] := by
  have e : l.take 1 = [l[0]] := by
    rw [List.take_succ_eq_append_getElem h, List.take_zero]; rfl
  rw [e]
  show (-1 < l[0].1 ∧ l[0].1 < l[0].2 ∧ l[0].2 ≤ _ ∧ True) ↔ _
  unfold fineR
  constructor
  · rintro ⟨h1, h2, h3, _⟩; exact ⟨by omega, h2, h3⟩
  · rintro ⟨h1, h2, h3⟩; exact ⟨by omega, h2, h3, trivial⟩
theorem okR.at_succ (l : List Rg) (i : Nat) (h : i + 1 < l.length) (hp : okR (-1) (l.take (i + 1))) : okR (-1) (l.take (i + 2)) ↔ fineR l[i + 1] ∧ l[i].2 < l[i + 1].1 := by
  have e1 : l.take (i + 1) = l.take i ++ [l[i]] := List.take_succ_eq_append_getElem (by omega)
  have e2 : l.take (i + 2) = l.take i ++ [l[i]] ++ [l[i + 1]] := by
    rw [List.take_succ_eq_append_getElem h, e1]
  rw [e1] at hp
  rw [e2, okR.snoc]
  have hpos : 0 ≤ l[i].2 := by
    have : ∀ (a : List Rg) (y : Rg) (p : Int), okR p (a ++ [y]) → p ≤ y.2 := by
      intro a
      induction a with
      | nil => intro y p h; have h1 := h.1; have h2 := h.2.1; omega
      | cons z a ih => intro y p h; have h1 := h.1; have h2 := h.2.1; have := ih y z.2 h.2.2.2; omega
    have h3 : ∀ (a : List Rg) (y : Rg) (p : Int), okR p (a ++ [y]) → p < y.2 := by
      intro a
      induction a with
      | nil => intro y p h; have h1 := h.1; have h2 := h.2.1; omega
      | cons z a ih => intro y p h; have h1 := h.1; have h2 := h.2.1; have := ih y z.2 h.2.2.2; omega
    have := h3 _ _ _ hp
    omega
  unfold fineR
  constructor
  · rintro ⟨_, h2, h3, h4⟩; exact ⟨⟨by omega, h3, h4⟩, h2⟩
  · rintro ⟨⟨_, h3, h4⟩, h2⟩; exact ⟨hp, h2, h3, h4⟩
theorem okR.not_all {l : List Rg} {i : Nat} (h : ¬ okR (-1) (l.take i)) : ¬ okR (-1) l := fun h2 => by
  rw [← List.take_append_drop i l] at h2
  exact h h2.prefix
def hasR (l : List Rg) (n : Int) : Prop := ∃ x, x ∈ l ∧ x.1 ≤ n ∧ n < x.2
theorem hasR_nil (n : Int) : ¬ hasR [] n := fun ⟨_, h, _⟩ => by cases h
theorem hasR_cons (x : Rg) (l : List Rg) (n : Int) : hasR (x :: l) n ↔ (x.1 ≤ n ∧ n < x.2) ∨ hasR l n := by
  constructor
  · rintro ⟨y, hy, h⟩
    rcases List.mem_cons.1 hy with rfl | hy
    · exact .inl h
    · exact .inr ⟨y, hy, h⟩
  · rintro (h | ⟨y, hy, h⟩)
    · exact ⟨x, List.mem_cons_self, h⟩
    · exact ⟨y, List.mem_cons_of_mem _ hy, h⟩
theorem hasR_append (a b : List Rg) (n : Int) : hasR (a ++ b) n ↔ hasR a n ∨ hasR b n := by
  induction a with
  | nil => simp [hasR_nil]
  | cons x a ih => rw [List.cons_append, hasR_cons, hasR_cons, ih, or_assoc]
theorem okR.above {l : List Rg} : ∀ {p : Int}, okR p l → ∀ n, hasR l n → p < n := by
  induction l with
  | nil => intro p _ n h; exact absurd h (hasR_nil n)
  | cons x l ih =>
    intro p h n hn
    rw [hasR_cons] at hn
    obtain ⟨h1, h2, h3, h4⟩ := h
    rcases hn with hn | hn
    · omega
    · have := ih h4 n hn
      omega
theorem okR.below {l : List Rg} : ∀ {p : Int}, okR p l → ∀ x ∈ l, p < x.1 ∧ x.1 < x.2 ∧ x.2 ≤ 4611686018427387903 := by
  induction l with
  | nil => intro p _ x hx; cases hx
  | cons y l ih =>
    intro p h x hx
    obtain ⟨h1, h2, h3, h4⟩ := h
    rcases List.mem_cons.1 hx with rfl | hx
    · exact ⟨h1, h2, h3⟩
    · have := ih h4 x hx
      omega
theorem okR.uniq {l : List Rg} : ∀ {m : List Rg} {p q : Int}, okR p l → okR q m → (∀ n, hasR l n ↔ hasR m n) → l = m := by
  induction l with
  | nil =>
    intro m p q _ hm h
    cases m with
    | nil => rfl
    | cons y m =>
      have := (h y.1).2 ((hasR_cons y m y.1).2 (.inl ⟨by omega, hm.2.1⟩))
      exact absurd this (hasR_nil _)
  | cons x l ih =>
    intro m p q hl hm h
    cases m with
    | nil =>
      have := (h x.1).1 ((hasR_cons x l x.1).2 (.inl ⟨by omega, hl.2.1⟩))
      exact absurd this (hasR_nil _)
    | cons y m =>
      obtain ⟨l1, l2, l3, l4⟩ := hl
      obtain ⟨m1, m2, m3, m4⟩ := hm
      have h' : ∀ n, ((x.1 ≤ n ∧ n < x.2) ∨ hasR l n) ↔ ((y.1 ≤ n ∧ n < y.2) ∨ hasR m n) := fun n => by
        rw [← hasR_cons, ← hasR_cons]; exact h n
      have la := fun n => l4.above n
      have ma := fun n => m4.above n
      have e1 : x.1 = y.1 := by
        rcases (h' x.1).1 (.inl ⟨by omega, l2⟩) with h1 | h1
        · rcases (h' y.1).2 (.inl ⟨by omega, m2⟩) with h2 | h2
          · omega
          · have := la _ h2; omega
        · have := ma _ h1
          rcases (h' y.1).2 (.inl ⟨by omega, m2⟩) with h2 | h2
          · omega
          · have := la _ h2; omega
      have e2 : x.2 = y.2 := by
        rcases Int.lt_trichotomy x.2 y.2 with h1 | h1 | h1
        · rcases (h' x.2).2 (.inl ⟨by omega, h1⟩) with h2 | h2
          · omega
          · have := la _ h2; omega
        · exact h1
        · rcases (h' y.2).1 (.inl ⟨by omega, h1⟩) with h2 | h2
          · omega
          · have := ma _ h2; omega
      have ht : ∀ n, hasR l n ↔ hasR m n := fun n => by
        by_cases hn : n ≤ x.2
        · constructor
          · intro h3; have := la _ h3; omega
          · intro h3; have := ma _ h3; omega
        · have h3 := h' n
          constructor
          · intro h4
            rcases h3.1 (.inr h4) with h5 | h5
            · omega
            · exact h5
          · intro h4
            rcases h3.2 (.inr h4) with h5 | h5
            · omega
            · exact h5
      have := ih l4 m4 ht
      rw [this, show x = y from Prod.ext e1 e2]

def addR : Rg → List Rg → List Rg
  | r, [] => [r]
  | r, x :: l => if x.2 < r.1 then x :: addR r l else if r.2 < x.1 then r :: x :: l else addR (min r.1 x.1, max r.2 x.2) l
theorem addR_ok (l : List Rg) : ∀ (p : Int) (r : Rg), okR p l → p < r.1 → r.1 < r.2 → r.2 ≤ 4611686018427387903 → okR p (addR r l) := by
  induction l with
  | nil => intro p r _ h1 h2 h3; exact ⟨h1, h2, h3, trivial⟩
  | cons x l ih =>
    intro p r h h1 h2 h3
    obtain ⟨a1, a2, a3, a4⟩ := h
    unfold addR
    split
    · exact ⟨a1, a2, a3, ih _ _ a4 (by omega) h2 h3⟩
    · split
      · exact ⟨h1, h2, h3, by omega, a2, a3, a4⟩
      · exact ih p _ (a4.weaker (by omega)) (by omega) (by omega) (by omega)
theorem addR_has (l : List Rg) : ∀ (p : Int) (r : Rg), okR p l → r.1 < r.2 → ∀ n, hasR (addR r l) n ↔ hasR l n ∨ (r.1 ≤ n ∧ n < r.2) := by
  induction l with
  | nil =>
    intro p r _ _ n
    show hasR [r] n ↔ _
    rw [hasR_cons]
    simp [hasR_nil]
  | cons x l ih =>
    intro p r h h2 n
    obtain ⟨a1, a2, a3, a4⟩ := h
    unfold addR
    split
    · rw [hasR_cons, hasR_cons, ih _ _ a4 h2, or_assoc]
    · split
      · rw [hasR_cons, or_comm]
      · rw [hasR_cons, ih p _ (a4.weaker (by omega)) (by omega)]
        constructor
        · rintro (h3 | h3)
          · exact .inl (.inr h3)
          · by_cases h4 : r.1 ≤ n ∧ n < r.2
            · exact .inr h4
            · exact .inl (.inl (by omega))
        · rintro ((h3 | h3) | h3)
          · exact .inr (by omega)
          · exact .inl h3
          · exact .inr (by omega)

def cutR (r x : Rg) : List Rg := (if x.1 < min x.2 r.1 then [(x.1, min x.2 r.1)] else []) ++ (if max x.1 r.2 < x.2 then [(max x.1 r.2, x.2)] else [])
def remR (r : Rg) (l : List Rg) : List Rg := l.flatMap (cutR r)
theorem cutR_has (r x : Rg) (hr : r.1 < r.2) (n : Int) : hasR (cutR r x) n ↔ (x.1 ≤ n ∧ n < x.2) ∧ ¬ (r.1 ≤ n ∧ n < r.2) := by
  unfold cutR
  rw [hasR_append]
  by_cases h1 : x.1 < min x.2 r.1 <;> by_cases h2 : max x.1 r.2 < x.2
  · rw [if_pos h1, if_pos h2, hasR_cons, hasR_cons]
    simp only [hasR_nil, or_false]
    omega
  · rw [if_pos h1, if_neg h2, hasR_cons]
    simp only [hasR_nil, or_false]
    omega
  · rw [if_neg h1, if_pos h2, hasR_cons]
    simp only [hasR_nil, or_false, false_or]
    omega
  · rw [if_neg h1, if_neg h2]
    simp only [hasR_nil, or_false, false_iff]
    omega
theorem remR_has (r : Rg) (hr : r.1 < r.2) (l : List Rg) (n : Int) : hasR (remR r l) n ↔ hasR l n ∧ ¬ (r.1 ≤ n ∧ n < r.2) := by
  induction l with
  | nil => simp [remR, hasR_nil]
  | cons x l ih =>
    have e : remR r (x :: l) = cutR r x ++ remR r l := rfl
    rw [e, hasR_append, ih, cutR_has r x hr, hasR_cons]
    constructor
    · rintro (h | h)
      · exact ⟨.inl h.1, h.2⟩
      · exact ⟨.inr h.1, h.2⟩
    · rintro ⟨h | h, h2⟩
      · exact .inl ⟨h, h2⟩
      · exact .inr ⟨h, h2⟩
theorem okR_append {a b : List Rg} : ∀ {p q : Int}, okR p a → okR q b → (∀ x ∈ a, x.2 ≤ q) → p ≤ q → okR p (a ++ b) := by
  induction a with
  | nil => intro p q _ hb _ hpq; exact hb.weaker hpq
  | cons x a ih =>
    intro p q ha hb hx hpq
    obtain ⟨a1, a2, a3, a4⟩ := ha
    exact ⟨a1, a2, a3, ih a4 hb (fun y hy => hx y (List.mem_cons_of_mem _ hy)) (hx x List.mem_cons_self)⟩
theorem cutR_ok (r x : Rg) (p : Int) (hr : r.1 < r.2) (h1 : p < x.1) (h2 : x.1 < x.2) (h3 : x.2 ≤ 4611686018427387903) : okR p (cutR r x) ∧ ∀ y ∈ cutR r x, y.2 ≤ x.2 := by
  unfold cutR
  by_cases c1 : x.1 < min x.2 r.1 <;> by_cases c2 : max x.1 r.2 < x.2
  · rw [if_pos c1, if_pos c2]
    refine ⟨⟨h1, c1, by show min x.2 r.1 ≤ _; omega, by show min x.2 r.1 < max x.1 r.2; omega, c2, h3, trivial⟩, fun y hy => ?_⟩
    simp at hy
    rcases hy with rfl | rfl
    · show min x.2 r.1 ≤ x.2; omega
    · exact Int.le_refl _
  · rw [if_pos c1, if_neg c2]
    refine ⟨⟨h1, c1, by show min x.2 r.1 ≤ _; omega, trivial⟩, fun y hy => ?_⟩
    simp at hy
    subst hy
    show min x.2 r.1 ≤ x.2; omega
  · rw [if_neg c1, if_pos c2]
    refine ⟨⟨by show p < max x.1 r.2; omega, c2, h3, trivial⟩, fun y hy => ?_⟩
    simp at hy
    subst hy
    exact Int.le_refl _
  · rw [if_neg c1, if_neg c2]
    exact ⟨trivial, fun y hy => by simp at hy⟩
theorem remR_ok (r : Rg) (hr : r.1 < r.2) (l : List Rg) : ∀ p, okR p l → okR p (remR r l) := by
  induction l with
  | nil => intro p _; trivial
  | cons x l ih =>
    intro p h
    obtain ⟨a1, a2, a3, a4⟩ := h
    have hc := cutR_ok r x p hr a1 a2 a3
    exact okR_append (q := x.2) hc.1 (ih _ a4) hc.2 (by omega)

def bothR (x y : Rg) : List Rg := if max x.1 y.1 < min x.2 y.2 then [(max x.1 y.1, min x.2 y.2)] else []
def comR (a b : List Rg) : List Rg := a.flatMap fun x => b.flatMap (bothR x)
theorem bothR_has (x y : Rg) (n : Int) : hasR (bothR x y) n ↔ (x.1 ≤ n ∧ n < x.2) ∧ (y.1 ≤ n ∧ n < y.2) := by
  unfold bothR
  by_cases c : max x.1 y.1 < min x.2 y.2
  · rw [if_pos c, hasR_cons]
    simp only [hasR_nil, or_false]
    omega
  · rw [if_neg c]
    simp only [hasR_nil, false_iff]
    omega
theorem both_has (x : Rg) (b : List Rg) (n : Int) : hasR (b.flatMap (bothR x)) n ↔ (x.1 ≤ n ∧ n < x.2) ∧ hasR b n := by
  induction b with
  | nil => simp [hasR_nil]
  | cons y b ih =>
    rw [List.flatMap_cons, hasR_append, ih, bothR_has, hasR_cons]
    constructor
    · rintro (h | h)
      · exact ⟨h.1, .inl h.2⟩
      · exact ⟨h.1, .inr h.2⟩
    · rintro ⟨h, h2 | h2⟩
      · exact .inl ⟨h, h2⟩
      · exact .inr ⟨h, h2⟩
theorem comR_has (a b : List Rg) (n : Int) : hasR (comR a b) n ↔ hasR a n ∧ hasR b n := by
  induction a with
  | nil => simp [comR, hasR_nil]
  | cons x a ih =>
    have e : comR (x :: a) b = b.flatMap (bothR x) ++ comR a b := rfl
    rw [e, hasR_append, ih, both_has, hasR_cons]
    constructor
    · rintro (h | h)
      · exact ⟨.inl h.1, h.2⟩
      · exact ⟨.inr h.1, h.2⟩
    · rintro ⟨h | h, h2⟩
      · exact .inl ⟨h, h2⟩
      · exact .inr ⟨h, h2⟩
theorem both_ok (x : Rg) (p : Int) (h1 : p < x.1) (h3 : x.2 ≤ 4611686018427387903) (b : List Rg) : ∀ q, okR q b → okR (max p q) (b.flatMap (bothR x)) ∧ ∀ z ∈ b.flatMap (bothR x), z.2 ≤ x.2 := by
  induction b with
  | nil => intro q _; exact ⟨trivial, fun z hz => by simp at hz⟩
  | cons y b ih =>
    intro q h
    obtain ⟨b1, b2, b3, b4⟩ := h
    obtain ⟨i1, i2⟩ := ih _ b4
    rw [List.flatMap_cons]
    unfold bothR
    by_cases c : max x.1 y.1 < min x.2 y.2
    · rw [if_pos c]
      refine ⟨⟨by show max p q < max x.1 y.1; omega, c, by show min x.2 y.2 ≤ _; omega, i1.weaker (by show min x.2 y.2 ≤ max p y.2; omega)⟩, fun z hz => ?_⟩
      rw [List.mem_append, List.mem_singleton] at hz
      rcases hz with rfl | hz
      · show min x.2 y.2 ≤ x.2; omega
      · exact i2 z hz
    · rw [if_neg c, List.nil_append]
      exact ⟨i1.weaker (by omega), i2⟩
theorem comR_ok (b : List Rg) (hb : okR (-1) b) (a : List Rg) : ∀ p, -1 ≤ p → okR p a → okR p (comR a b) := by
  induction a with
  | nil => intro p _ _; trivial
  | cons x a ih =>
    intro p hp h
    obtain ⟨a1, a2, a3, a4⟩ := h
    obtain ⟨i1, i2⟩ := both_ok x p a1 a3 b (-1) hb
    exact okR_append (q := x.2) (i1.weaker (by omega)) (ih _ (by omega) a4) i2 (by omega)

def gapR : List Rg → Int → Int
  | [], n => n
  | x :: l, n => gapR l (if x.1 ≤ n ∧ n < x.2 then x.2 else n)
theorem gapR_ge (l : List Rg) : ∀ n, n ≤ gapR l n := by
  induction l with
  | nil => intro n; exact Int.le_refl _
  | cons x l ih =>
    intro n
    show n ≤ gapR l (if x.1 ≤ n ∧ n < x.2 then x.2 else n)
    by_cases c : x.1 ≤ n ∧ n < x.2
    · rw [if_pos c]
      have := ih x.2
      omega
    · rw [if_neg c]
      exact ih n
theorem gapR_low (l : List Rg) : ∀ p n, okR p l → n ≤ p → gapR l n = n := by
  induction l with
  | nil => intro p n _ _; rfl
  | cons x l ih =>
    intro p n h hn
    obtain ⟨a1, a2, a3, a4⟩ := h
    show gapR l (if x.1 ≤ n ∧ n < x.2 then x.2 else n) = n
    rw [if_neg (by omega)]
    exact ih x.2 n a4 (by omega)
theorem gapR_free (l : List Rg) : ∀ p n, okR p l → ¬ hasR l (gapR l n) := by
  induction l with
  | nil => intro p n _; exact hasR_nil _
  | cons x l ih =>
    intro p n h
    obtain ⟨a1, a2, a3, a4⟩ := h
    show ¬ hasR (x :: l) (gapR l (if x.1 ≤ n ∧ n < x.2 then x.2 else n))
    rw [hasR_cons]
    rintro (h1 | h1)
    · by_cases hc : x.1 ≤ n ∧ n < x.2
      · rw [if_pos hc, gapR_low l x.2 x.2 a4 (Int.le_refl _)] at h1
        omega
      · rw [if_neg hc] at h1
        by_cases hn : n ≤ x.2
        · rw [gapR_low l x.2 n a4 hn] at h1
          exact hc h1
        · have := gapR_ge l n
          omega
    · exact ih x.2 _ a4 h1

def cntR : List Rg → Int
  | [] => 0
  | x :: l => x.2 - x.1 + cntR l
theorem cntR_append (a b : List Rg) : cntR (a ++ b) = cntR a + cntR b := by
  induction a with
  | nil => simp [cntR]
  | cons x a ih => simp [cntR, ih]; omega
theorem cntR_le (l : List Rg) : ∀ p, okR p l → p ≤ 4611686018427387903 → 0 ≤ cntR l ∧ cntR l ≤ 4611686018427387903 - p := by
  induction l with
  | nil => intro p _ hp; simp [cntR]; omega
  | cons x l ih =>
    intro p h hp
    obtain ⟨a1, a2, a3, a4⟩ := h
    have := ih _ a4 a3
    simp [cntR]
    omega
theorem remR_above (r : Rg) (h0 : r.1 < r.2) (l : List Rg) : ∀ p, okR p l → r.2 ≤ p → remR r l = l := by
  induction l with
  | nil => intro p _ _; rfl
  | cons x l ih =>
    intro p h hr
    obtain ⟨a1, a2, a3, a4⟩ := h
    show cutR r x ++ remR r l = x :: l
    rw [ih x.2 a4 (by omega)]
    unfold cutR
    by_cases hl : x.1 < min x.2 r.1
    · exact absurd hl (by omega)
    · rw [if_neg hl, if_pos (by omega), show max x.1 r.2 = x.1 from by omega]; rfl
def topR (x : Rg) (most : Int) : Rg := if most < x.2 - x.1 then (x.1, x.1 + most) else x
end Go.Proofs.YtdaoaedkjoknmaaGreat.Num

namespace Go.Proofs.YtdaoaedkjoknmaaGreat
open Go.RowKit Go.Deep Go.Proofs.YtdaoaedkjoknmaaGreat.Num

def Ints (w : World) (B : Nat) (A : Option Addr) (zs : List Int) : Prop := ∀ j (hj : j < zs.length), ∃ b off, A = some ⟨b, off, none⟩ ∧ b < B ∧ w.cell? ⟨b, off + j, none⟩ = some (.int .i64 zs[j])
theorem Ints.keep {w w' : World} {B : Nat} {A : Option Addr} {zs : List Int} (h : Ints w B A zs) (hb : ∀ k, k < B → w'.heap[k]? = w.heap[k]?) : Ints w' B A zs := by
  intro j hj
  obtain ⟨b, off, hA, hlt, hc⟩ := h j hj
  exact ⟨b, off, hA, hlt, (World.cell?_of_block (w := w) (hb b hlt)).trans hc⟩
theorem Ints.below {w w' : World} {B K : Nat} {A : Option Addr} {zs : List Int} (h : Ints w B A zs) (hK : B ≤ K) (hb : Below K w w') : Ints w' B A zs := h.keep fun k hk => hb.block k (by omega)
theorem Ints.up {w : World} {B B' : Nat} {A : Option Addr} {zs : List Int} (h : Ints w B A zs) (hB : B ≤ B') : Ints w B' A zs := by
  intro j hj
  obtain ⟨b, off, hA, hlt, hc⟩ := h j hj
  exact ⟨b, off, hA, by omega, hc⟩
theorem Ints.nil {w : World} {B : Nat} {A : Option Addr} : Ints w B A [] := fun j hj => absurd hj (by simp)

def valsI (zs : List Int) : List Value := zs.map (Value.int .i64)
theorem valsI_len (zs : List Int) : (valsI zs).length = zs.length := by simp [valsI]
def cellsI (zs : List Int) : Array Value := (valsI zs).toArray
def OwnI (w : World) (base : Nat) (v : Value) (zs : List Int) : Prop := w.ownsRow base 3 1 v zs.length (valsI zs)
theorem OwnI.empty {w : World} {base : Nat} : OwnI w base (.slice none 0 0) [] := World.ownsRow_nil w base _ 1
theorem OwnI.lit (w : World) (base cap : Nat) (cur : Array Value) (hb : base ≤ w.heap.size) (hc : cap ≤ maxLen) (hs : cur.size = cap) :
    OwnI (w.alloc (.cells cur 3)) base (.slice (some ⟨w.heap.size, 0, none⟩) 0 cap) [] :=
  World.ownsRow_made w cur cap hb hc (by omega)
theorem OwnI.ints {w : World} {base : Nat} {v : Value} {zs : List Int} (h : OwnI w base v zs) : ∃ A cap, v = .slice A zs.length cap ∧ zs.length ≤ cap ∧ Ints w w.heap.size A zs := by
  have h0 := h
  obtain ⟨_, h⟩ := h
  rcases h with ⟨rfl, hn⟩ | ⟨g, cap, cur, rfl, _, hg, hle, _, _, _⟩
  · obtain rfl : zs = [] := List.eq_nil_of_length_eq_zero hn
    exact ⟨none, 0, rfl, by simp, Ints.nil⟩
  · refine ⟨_, cap, rfl, hle, fun j hj => ⟨g, 0, rfl, (Array.getElem?_eq_some_iff.1 hg).1, ?_⟩⟩
    have hc := World.ownsRow.cellAt h0 j (by omega)
    rw [Nat.zero_add, hc]
    simp [valsI, hj]

theorem infoI : (Tryz.prog.info? 3).map (fun i => (i.zero, i.size, i.bytes)) = some (some (.int .i64 0), 1, 8) := by kernel_rfl

theorem cellsI_at (zs : List Int) (j : Nat) (h : j < zs.length) : (cellsI zs)[j]? = some (.int .i64 zs[j]) := by
  simp [cellsI, valsI, h]
theorem cellsI_made (n : Nat) : Go.madeCells #[Value.int .i64 0] n = cellsI (List.replicate n 0) := by
  apply Array.ext
  · simp [cellsI, valsI, size_madeCells]
  · intro i h1 h2
    simp [Go.madeCells, cellsI, valsI, Nat.mod_one]
theorem make_ints (n : Nat) (hn : n ≤ 35184372088832) (W : World) :
    (Instr.makeSlice 24 (.int .i64 (n : Int)) (.int .i64 (n : Int))).run Tryz.prog W = .ok (.slice (some ⟨W.heap.size, 0, none⟩) n n) (W.alloc (.cells (cellsI (List.replicate n 0)) 3)) := by
  rw [← cellsI_made]
  exact run_make_row' 24 3 (.int .i64 0) 8 Tryz.underlying24 infoI rfl .i64 .i64 n (by omega) (by omega) W


def inI (zs : List Int) : Prop := ∀ z ∈ zs, -9223372036854775808 ≤ z ∧ z ≤ 9223372036854775807
def MidI (w : World) (base g off : Nat) (zs : List Int) : Prop := base ≤ g ∧ ∃ (cs : Array Value) (t : TypeId), w.heap[g]? = some (.cells cs t (0, 0)) ∧ ∀ j (hj : j < zs.length), cs[off + j]? = some (.int .i64 zs[j])
theorem MidI.ge {w : World} {base g off : Nat} {zs : List Int} (h : MidI w base g off zs) : base ≤ g ∧ g < w.heap.size := by
  obtain ⟨h1, cs, t, h2, _⟩ := h
  exact ⟨h1, (Array.getElem?_eq_some_iff.1 h2).1⟩
theorem MidI.cell {w : World} {base g off : Nat} {zs : List Int} (h : MidI w base g off zs) (j : Nat) (hj : j < zs.length) : w.cell? ⟨g, off + j, none⟩ = some (.int .i64 zs[j]) := by
  obtain ⟨_, cs, t, h2, h3⟩ := h
  exact (cell_of_row w g (off + j) _ _ _ h2).trans (h3 j hj)
theorem MidI.ints {w : World} {base g off : Nat} {zs : List Int} (h : MidI w base g off zs) : Ints w w.heap.size (some ⟨g, off, none⟩) zs := fun j hj => ⟨g, off, rfl, h.ge.2, h.cell j hj⟩
theorem MidI.free {w : World} {base g off : Nat} {zs : List Int} (h : MidI w base g off zs) (k : Nat) : w.frozen? ⟨g, k, none⟩ = false := by
  obtain ⟨_, cs, t, h2, _⟩ := h
  simp [World.frozen?, h2]
theorem MidI.kept {w w' : World} {base g off : Nat} {zs : List Int} {ob : Option Nat} (h : MidI w base g off zs) (hg : w.grownBy w' ob) (hne : some g ≠ ob) : MidI w' base g off zs := by
  have h0 := h.ge.2
  obtain ⟨h1, cs, t, h2, h3⟩ := h
  exact ⟨h1, cs, t, (hg.block g h0 hne).trans h2, h3⟩
theorem MidI.store {w : World} {base g off : Nat} {zs : List Int} (h : MidI w base g off zs) (j : Nat) (hj : j < zs.length) (x : Int) : MidI (w.setCell ⟨g, off + j, none⟩ (.int .i64 x)) base g off (zs.set j x) := by
  obtain ⟨h1, cs, t, h2, h3⟩ := h
  refine ⟨h1, cs.setIfInBounds (off + j) (.int .i64 x), t, ?_, fun i hi => ?_⟩
  · simp [World.setCell, Array.getElem?_modify, h2]
  · have hi2 : i < zs.length := by simpa using hi
    have hs : off + j < cs.size := (Array.getElem?_eq_some_iff.1 (h3 j hj)).1
    by_cases he : j = i
    · subst he
      simp [hs]
    · rw [Array.getElem?_setIfInBounds_ne (by omega), h3 i hi2]
      simp [List.getElem_set_ne he]
theorem intI_below {w w' : World} (h : Below w.heap.size w w') : w.grownBy w' none := ⟨h.os, h.tape, h.output, h.size, fun i hi _ => h.block i hi⟩
def OwnK (w : World) (base : Nat) (v : Value) (zs : List Int) : Prop := (v = .slice none 0 0 ∧ zs = []) ∨ ∃ g off cap, v = .slice (some ⟨g, off, none⟩) zs.length cap ∧ zs.length ≤ cap ∧ MidI w base g off zs
theorem OwnK.empty {w : World} {base : Nat} : OwnK w base (.slice none 0 0) [] := .inl ⟨rfl, rfl⟩
theorem OwnI.k {w : World} {base : Nat} {v : Value} {zs : List Int} (h : OwnI w base v zs) : OwnK w base v zs := by
  obtain ⟨_, h⟩ := h
  rcases h with ⟨rfl, hz⟩ | ⟨g, cap, cur, rfl, hb, hg, hle, _, hc, ht⟩
  · exact .inl ⟨rfl, List.eq_nil_of_length_eq_zero hz⟩
  · refine .inr ⟨g, 0, cap, rfl, hle, hb, cur, _, hg, fun j hj => ?_⟩
    have h2 : (cur.toList.take (zs.length * 1))[j]? = (valsI zs)[j]? := by rw [ht]
    rw [List.getElem?_take_of_lt (by omega)] at h2
    rw [Nat.zero_add, ← Array.getElem?_toList, h2]
    simp [valsI, hj]
theorem OwnK.row {w : World} {base g cap : Nat} {zs : List Int} (hb : base ≤ g) (t : TypeId) (h : w.heap[g]? = some (.cells (cellsI zs) t (0, 0))) (hc : zs.length ≤ cap) : OwnK w base (.slice (some ⟨g, 0, none⟩) zs.length cap) zs :=
  .inr ⟨g, 0, cap, rfl, hc, hb, cellsI zs, t, h, fun j hj => by rw [Nat.zero_add]; exact cellsI_at zs j hj⟩
theorem OwnK.frs {w : World} {base : Nat} {v : Value} {zs : List Int} (h : OwnK w base v zs) : ∃ A cap, v = .slice A zs.length cap ∧ zs.length ≤ cap ∧ Ints w w.heap.size A zs := by
  rcases h with ⟨rfl, rfl⟩ | ⟨g, off, cap, rfl, hle, h⟩
  · exact ⟨none, 0, rfl, Nat.le_refl _, Ints.nil⟩
  · exact ⟨_, cap, rfl, hle, h.ints⟩
theorem OwnK.chs {w : World} {base : Nat} {A : Option Addr} {cap : Nat} {zs : List Int} (h : OwnK w base (.slice A zs.length cap) zs) : Ints w w.heap.size A zs := by
  obtain ⟨A', cap', e, _, hc⟩ := h.frs
  injection e with e1 _ _
  subst e1
  exact hc
theorem OwnK.lt {w : World} {base : Nat} {v : Value} {zs : List Int} (h : OwnK w base v zs) : ∀ k, v.ownBlock = some k → base ≤ k ∧ k < w.heap.size := by
  rcases h with ⟨rfl, rfl⟩ | ⟨g, off, cap, rfl, hle, h⟩
  · intro k hk; cases hk
  · intro k hk
    injection hk with hk
    subst hk
    exact h.ge
theorem OwnK.kept {w w' : World} {base : Nat} {v : Value} {zs : List Int} {ob : Option Nat} (h : OwnK w base v zs) (hg : w.grownBy w' ob) (hne : v.ownBlock = none ∨ v.ownBlock ≠ ob) : OwnK w' base v zs := by
  rcases h with h | ⟨g, off, cap, rfl, hle, h⟩
  · exact .inl h
  · exact .inr ⟨g, off, cap, rfl, hle, h.kept hg (hne.resolve_left fun e => by cases e)⟩
theorem OwnK.later {w w' : World} {base : Nat} {v : Value} {zs : List Int} (h : OwnK w base v zs) (hb : Below w.heap.size w w') : OwnK w' base v zs :=
  h.kept (intI_below hb) (by
    cases v.ownBlock with
    | none => exact .inl rfl
    | some k => exact .inr (by simp))
theorem OwnK.alloc {w : World} {base : Nat} {v : Value} {zs : List Int} (h : OwnK w base v zs) (o : Obj) : OwnK (w.alloc o) base v zs := h.later ((Below.refl _ _).alloc (Nat.le_refl _) _)
theorem OwnK.weaken {w : World} {base base' : Nat} {v : Value} {zs : List Int} (h : OwnK w base v zs) (hb : base' ≤ base) : OwnK w base' v zs := by
  rcases h with h | ⟨g, off, cap, rfl, hle, h1, h2⟩
  · exact .inl h
  · exact .inr ⟨g, off, cap, rfl, hle, by omega, h2⟩
theorem only_setI (w : World) (g : Nat) (k : Nat) (u : Value) : w.grownBy (w.setCell ⟨g, k, none⟩ u) (some g) :=
  ⟨rfl, rfl, rfl, by simp [World.setCell], fun i _ hne => Below.heap_setCell w ⟨g, k, none⟩ u i (by rintro rfl; exact hne rfl)⟩
theorem only_moreI {a b : World} {g : Nat} (h : a.grownBy b (some g)) (k : Nat) (u : Value) : a.grownBy (b.setCell ⟨g, k, none⟩ u) (some g) :=
  ⟨h.os, h.tape, h.output, by simpa [World.setCell] using h.size, fun i hi hne => (Below.heap_setCell b ⟨g, k, none⟩ u i (by rintro rfl; exact hne rfl)).trans (h.block i hi hne)⟩
theorem OwnK.apart {W : World} {base : Nat} {v : Value} {zs : List Int} (h : OwnK W base v zs) (g k : Nat) (y : Value) (hg : g < base) : OwnK (W.setCell ⟨g, k, none⟩ y) base v zs := by
  refine h.kept (only_setI W g k y) ?_
  cases hv : v.ownBlock with
  | none => exact .inl rfl
  | some q => exact .inr (fun e => by have := (h.lt q hv).1; injection e; omega)

end Go.Proofs.YtdaoaedkjoknmaaGreat

namespace Go.Proofs.YtdaoaedkjoknmaaGreat.Num

structure Rn where
  size : Int
  base : Int
  en : Int
  cs : List Int
def powR (n : Int) : Prop := n = 1 ∨ n = 2 ∨ n = 4 ∨ n = 8 ∨ n = 16 ∨ n = 32 ∨ n = 64
instance (n : Int) : Decidable (powR n) := by unfold powR; infer_instance
theorem powR.lo {n : Int} (h : powR n) : 1 ≤ n ∧ n ≤ 64 := by unfold powR at h; omega
def inRn (r : Rn) : Prop := (-9223372036854775808 ≤ r.size ∧ r.size ≤ 9223372036854775807) ∧ (-9223372036854775808 ≤ r.base ∧ r.base ≤ 9223372036854775807) ∧ -9223372036854775808 ≤ r.en ∧ r.en ≤ 9223372036854775807
def okRn (r : Rn) : Prop := powR r.size ∧ (r.cs.length : Int) = r.size ∧ 0 ≤ r.base ∧ r.base ≤ r.en ∧ r.en - r.base ≤ r.size ∧ r.en ≤ 4611686018427387903 ∧ ∀ z ∈ r.cs, 0 ≤ z ∧ z ≤ 255
instance (r : Rn) : Decidable (okRn r) := by unfold okRn; infer_instance
def roomR (r : Rn) : Int := if okRn r then min (r.size - (r.en - r.base)) (4611686018427387903 - r.en) else 0
theorem roomR_in (r : Rn) : 0 ≤ roomR r ∧ roomR r ≤ 64 := by
  unfold roomR
  split
  · rename_i h
    have h1 := h.1.lo
    obtain ⟨_, _, h2, h3, h4, h5, _⟩ := h
    omega
  · omega
def byt8 (d : ByteArray) (k : Nat) : Int := if h : k < d.size then (d[k].toNat : Int) else 0
theorem byt8_at (d : ByteArray) (k : Nat) (h : k < d.size) : byt8 d k = (d[k].toNat : Int) := by unfold byt8; rw [dif_pos h]
theorem byt8_in (d : ByteArray) (k : Nat) : 0 ≤ byt8 d k ∧ byt8 d k ≤ 255 := by
  unfold byt8
  split
  · rename_i h
    have := d[k].toNat_lt
    omega
  · omega
def atR (sz k : Int) : Nat := (k % sz).toNat
theorem atR_lt {sz : Int} (h : 1 ≤ sz) (k : Int) : (atR sz k : Int) < sz ∧ (atR sz k : Int) = k % sz := by
  have h1 := Int.emod_nonneg k (show sz ≠ 0 by omega)
  have h2 := Int.emod_lt_of_pos k (show 0 < sz by omega)
  unfold atR
  omega
def putR (sz e : Int) (d : ByteArray) (cs : List Int) : Nat → List Int
  | 0 => cs
  | k + 1 => (putR sz e d cs k).set (atR sz (e + k)) (byt8 d k)
theorem putR_len (sz e : Int) (d : ByteArray) (cs : List Int) (k : Nat) : (putR sz e d cs k).length = cs.length := by
  induction k with
  | zero => rfl
  | succ k ih => simp [putR, ih]
theorem set_all {P : Int → Prop} {l : List Int} (h : ∀ z ∈ l, P z) (k : Nat) {v : Int} (hv : P v) : ∀ z ∈ l.set k v, P z := by
  intro z hz
  rcases List.mem_or_eq_of_mem_set hz with h1 | h1
  · exact h z h1
  · rw [h1]; exact hv
theorem putR_all {P : Int → Prop} (hP : ∀ z, 0 ≤ z → z ≤ 255 → P z) (sz e : Int) (d : ByteArray) {cs : List Int} (h : ∀ z ∈ cs, P z) (k : Nat) : ∀ z ∈ putR sz e d cs k, P z := by
  induction k with
  | zero => exact h
  | succ k ih =>
    have hb := byt8_in d k
    exact set_all ih _ (hP _ hb.1 hb.2)
def cntW (r : Rn) (d : ByteArray) : Nat := (min (roomR r) (d.size : Int)).toNat
theorem cntW_in (r : Rn) (d : ByteArray) : (cntW r d : Int) = min (roomR r) (d.size : Int) := by
  have := (roomR_in r).1
  unfold cntW
  omega
def wrR (r : Rn) (d : ByteArray) : Rn := ⟨r.size, r.base, r.en + cntW r d, putR r.size r.en d r.cs (cntW r d)⟩
theorem cntW_bad {r : Rn} (d : ByteArray) (h : ¬ okRn r) : cntW r d = 0 := by
  have h1 := cntW_in r d
  have h2 : roomR r = 0 := if_neg h
  omega
theorem wrR_ok {r : Rn} (d : ByteArray) (h : okRn r) : okRn (wrR r d) := by
  have h1 := cntW_in r d
  have h2 : roomR r = min (r.size - (r.en - r.base)) (4611686018427387903 - r.en) := if_pos h
  obtain ⟨a1, a2, a3, a4, a5, a6, a7⟩ := h
  refine ⟨a1, ?_, a3, ?_, ?_, ?_, ?_⟩
  · show ((putR r.size r.en d r.cs (cntW r d)).length : Int) = r.size
    rw [putR_len]; exact a2
  · show r.base ≤ r.en + cntW r d; omega
  · show r.en + cntW r d - r.base ≤ r.size; omega
  · show r.en + cntW r d ≤ _; omega
  · exact putR_all (fun z h0 h1 => ⟨h0, h1⟩) _ _ _ a7 _
def peekL (sz o : Int) (cs : List Int) : Nat → List UInt8
  | 0 => []
  | k + 1 => peekL sz o cs k ++ [UInt8.ofNat (cs.getD (atR sz (o + k)) 0).toNat]
theorem peekL_len (sz o : Int) (cs : List Int) (k : Nat) : (peekL sz o cs k).length = k := by
  induction k with
  | zero => rfl
  | succ k ih => simp [peekL, ih]
def canP (r : Rn) (o n : Int) : Prop := okRn r ∧ r.base ≤ o ∧ 0 ≤ n ∧ o ≤ r.en ∧ n ≤ r.en - o
instance (r : Rn) (o n : Int) : Decidable (canP r o n) := by unfold canP; infer_instance
def pkR (r : Rn) (o n : Int) : ByteArray := if canP r o n then ⟨(peekL r.size o r.cs n.toNat).toArray⟩ else ⟨#[]⟩
def zerR (sz b : Int) (cs : List Int) : Nat → List Int
  | 0 => cs
  | k + 1 => (zerR sz b cs k).set (atR sz (b + k)) 0
theorem zerR_len (sz b : Int) (cs : List Int) (k : Nat) : (zerR sz b cs k).length = cs.length := by
  induction k with
  | zero => rfl
  | succ k ih => simp [zerR, ih]
theorem zerR_all {P : Int → Prop} (hP : P 0) (sz b : Int) {cs : List Int} (h : ∀ z ∈ cs, P z) (k : Nat) : ∀ z ∈ zerR sz b cs k, P z := by
  induction k with
  | zero => exact h
  | succ k ih => exact set_all ih _ hP
def canD (r : Rn) (t : Int) : Prop := okRn r ∧ r.base ≤ t ∧ t ≤ r.en
instance (r : Rn) (t : Int) : Decidable (canD r t) := by unfold canD; infer_instance
def drR (r : Rn) (t : Int) : Rn := if canD r t then ⟨r.size, t, r.en, zerR r.size r.base r.cs (t - r.base).toNat⟩ else r
theorem drR_ok {r : Rn} {t : Int} (h : okRn r) : okRn (drR r t) := by
  unfold drR
  split
  · rename_i hd
    obtain ⟨a1, a2, a3, a4, a5, a6, a7⟩ := h
    have h1 := hd.2.1
    have h2 := hd.2.2
    refine ⟨a1, ?_, ?_, h2, ?_, a6, zerR_all ⟨by omega, by omega⟩ _ _ a7 _⟩
    · show ((zerR r.size r.base r.cs _).length : Int) = r.size
      rw [zerR_len]; exact a2
    · show 0 ≤ t; omega
    · show r.en - t ≤ r.size; omega
  · exact h
def nwR (n : Int) : Rn := if powR n then ⟨n, 0, 0, List.replicate n.toNat 0⟩ else ⟨0, 0, 0, []⟩
def sameRn (r s : Rn) : Prop := r.size = s.size ∧ r.base = s.base ∧ r.en = s.en ∧ r.cs = s.cs
instance (r s : Rn) : Decidable (sameRn r s) := by unfold sameRn; infer_instance
theorem nwR_ok {n : Int} (h : powR n) : okRn (nwR n) := by
  have h1 := h.lo
  unfold nwR
  rw [if_pos h]
  refine ⟨h, ?_, Int.le_refl _, Int.le_refl _, ?_, show (0 : Int) ≤ 4611686018427387903 by decide, ?_⟩
  · show ((List.replicate n.toNat (0 : Int)).length : Int) = n
    rw [List.length_replicate]; omega
  · show (0 : Int) - 0 ≤ n; omega
  · intro z hz
    rw [List.eq_of_mem_replicate hz]
    omega
theorem atR_inj {sz a b : Int} (hs : 1 ≤ sz) (h1 : a ≤ b) (h2 : b - a < sz) (h : atR sz a = atR sz b) : a = b := by
  have ha := (atR_lt hs a).2
  have hb := (atR_lt hs b).2
  have hm : a % sz = b % sz := by rw [← ha, ← hb, h]
  have h3 : (b - a) % sz = 0 := Int.emod_eq_emod_iff_emod_sub_eq_zero.1 hm.symm
  rw [Int.emod_eq_of_lt (by omega) h2] at h3
  omega
theorem putR_other {sz e : Int} (d : ByteArray) (cs : List Int) (p : Int) (k : Nat) (h : ∀ j : Nat, j < k → atR sz (e + j) ≠ atR sz p) : (putR sz e d cs k).getD (atR sz p) 0 = cs.getD (atR sz p) 0 := by
  induction k with
  | zero => rfl
  | succ k ih =>
    rw [← ih (fun j hj => h j (by omega))]
    show ((putR sz e d cs k).set (atR sz (e + k)) (byt8 d k)).getD (atR sz p) 0 = _
    have := h k (Nat.lt_succ_self k)
    simp [List.getD_eq_getElem?_getD, List.getElem?_set_ne this]
theorem putR_seen {sz e : Int} (d : ByteArray) (cs : List Int) (hs : 1 ≤ sz) (hl : (cs.length : Int) = sz) (k i : Nat) (hi : i < k) (hk : (k : Int) ≤ sz) : (putR sz e d cs k).getD (atR sz (e + i)) 0 = byt8 d i := by
  induction k with
  | zero => omega
  | succ k ih =>
    show ((putR sz e d cs k).set (atR sz (e + k)) (byt8 d k)).getD (atR sz (e + i)) 0 = _
    by_cases h : i = k
    · subst h
      have hlt := (atR_lt hs (e + i)).1
      have hl2 := putR_len sz e d cs i
      simp [List.getD_eq_getElem?_getD, show atR sz (e + i) < (putR sz e d cs i).length by omega]
    · have hne : atR sz (e + k) ≠ atR sz (e + i) := fun h2 => by
        have := atR_inj (sz := sz) (a := e + i) (b := e + k) hs (by omega) (by omega) h2.symm
        omega
      rw [← ih (by omega) (by omega)]
      simp [List.getD_eq_getElem?_getD, List.getElem?_set_ne hne]
theorem peekL_congr {sz o : Int} {cs cs' : List Int} (k : Nat) (h : ∀ j : Nat, j < k → cs.getD (atR sz (o + j)) 0 = cs'.getD (atR sz (o + j)) 0) : peekL sz o cs k = peekL sz o cs' k := by
  induction k with
  | zero => rfl
  | succ k ih =>
    show peekL sz o cs k ++ _ = peekL sz o cs' k ++ _
    rw [ih (fun j hj => h j (by omega)), h k (Nat.lt_succ_self k)]
end Go.Proofs.YtdaoaedkjoknmaaGreat.Num

namespace Go.Proofs.YtdaoaedkjoknmaaGreat
open Go.RowKit Go.Deep Go.Proofs.YtdaoaedkjoknmaaGreat.Num

abbrev rnV (r : Rn) (v : Value) : Value := .agg #[.int .i64 r.size, .int .i64 r.base, .int .i64 r.en, v]
abbrev rnC (s b e : Int) (v : Value) : Array Value := #[.int .i64 s, .int .i64 b, .int .i64 e, v]
def Cell4 (w : World) (g : Nat) (s b e : Int) (v : Value) : Prop := w.cell? ⟨g, 0, none⟩ = some (.int .i64 s) ∧ w.cell? ⟨g, 1, none⟩ = some (.int .i64 b) ∧ w.cell? ⟨g, 2, none⟩ = some (.int .i64 e) ∧ w.cell? ⟨g, 3, none⟩ = some v
theorem Cell4.below {w w' : World} {K g : Nat} {s b e : Int} {v : Value} (x : Cell4 w g s b e v) (hb : Below K w w') (hg : g < K) : Cell4 w' g s b e v :=
  ⟨(hb.cell (p := ⟨g, 0, none⟩) hg).trans x.1, (hb.cell (p := ⟨g, 1, none⟩) hg).trans x.2.1, (hb.cell (p := ⟨g, 2, none⟩) hg).trans x.2.2.1, (hb.cell (p := ⟨g, 3, none⟩) hg).trans x.2.2.2⟩
theorem Cell4.new (w : World) (s b e : Int) (v : Value) (t : TypeId) : Cell4 (w.alloc (.cells (rnC s b e v) t)) w.heap.size s b e v := by
  refine ⟨?_, ?_, ?_, ?_⟩ <;> (rw [World.cell?_alloc_at _ _ _ _ rfl]; rfl)
abbrev CellN (w : World) (g : Nat) (r : Rn) (v : Value) : Prop := Cell4 w g r.size r.base r.en v
def BoxN (w : World) (g : Nat) (s b e : Int) (v : Value) : Prop := w.heap[g]? = some (.cells (rnC s b e v) 26 (0, 0))
theorem BoxN.cells {w : World} {g : Nat} {s b e : Int} {v : Value} (x : BoxN w g s b e v) : Cell4 w g s b e v := ⟨cell_of_row w g 0 _ _ _ x, cell_of_row w g 1 _ _ _ x, cell_of_row w g 2 _ _ _ x, cell_of_row w g 3 _ _ _ x⟩
theorem BoxN.free {w : World} {g : Nat} {s b e : Int} {v : Value} (x : BoxN w g s b e v) (k : Nat) : w.frozen? ⟨g, k, none⟩ = false := by
  unfold BoxN at x
  simp [World.frozen?, x]
theorem BoxN.new (w : World) (s b e : Int) (v : Value) : BoxN (w.alloc (.cells (rnC s b e v) 26)) w.heap.size s b e v := heap_alloc_new w _
theorem BoxN.lt {w : World} {g : Nat} {s b e : Int} {v : Value} (x : BoxN w g s b e v) : g < w.heap.size := (Array.getElem?_eq_some_iff.1 x).1
theorem BoxN.below {w w' : World} {g K : Nat} {s b e : Int} {v : Value} (x : BoxN w g s b e v) (hb : Below K w w') (hg : g < K) : BoxN w' g s b e v := (hb.block g hg).trans x
theorem BoxN.alloc {w : World} {g : Nat} {s b e : Int} {v : Value} (x : BoxN w g s b e v) (o : Obj) : BoxN (w.alloc o) g s b e v := (Below.heap_alloc w o g x.lt).trans x
theorem BoxN.other {w : World} {g : Nat} {s b e : Int} {v : Value} (x : BoxN w g s b e v) (g' k : Nat) (u : Value) (hg : g ≠ g') : BoxN (w.setCell ⟨g', k, none⟩ u) g s b e v := (Below.heap_setCell w ⟨g', k, none⟩ u g hg).trans x
theorem BoxN.set0 {w : World} {g : Nat} {s b e : Int} {v : Value} (x : BoxN w g s b e v) (y : Int) : BoxN (w.setCell ⟨g, 0, none⟩ (.int .i64 y)) g y b e v := by
  unfold BoxN at x ⊢
  simp [World.setCell, Array.getElem?_modify, x]
theorem BoxN.set1 {w : World} {g : Nat} {s b e : Int} {v : Value} (x : BoxN w g s b e v) (y : Int) : BoxN (w.setCell ⟨g, 1, none⟩ (.int .i64 y)) g s y e v := by
  unfold BoxN at x ⊢
  simp [World.setCell, Array.getElem?_modify, x]
theorem BoxN.set2 {w : World} {g : Nat} {s b e : Int} {v : Value} (x : BoxN w g s b e v) (y : Int) : BoxN (w.setCell ⟨g, 2, none⟩ (.int .i64 y)) g s b y v := by
  unfold BoxN at x ⊢
  simp [World.setCell, Array.getElem?_modify, x]
theorem BoxN.set3 {w : World} {g : Nat} {s b e : Int} {v : Value} (x : BoxN w g s b e v) (y : Value) : BoxN (w.setCell ⟨g, 3, none⟩ y) g s b e y := by
  unfold BoxN at x ⊢
  simp [World.setCell, Array.getElem?_modify, x]
def VarN (W : World) (B g : Nat) (r : Rn) (v : Value) : Prop :=
  CellN W g r v ∧ OwnK W B v r.cs ∧ (∀ k, v.ownBlock = some k → k < g) ∧ B ≤ g ∧ g < W.heap.size
def VarNM (W : World) (B g : Nat) (r : Rn) (v : Value) (l : List Int) : Prop :=
  CellN W g r v ∧ OwnK W B v l ∧ (∀ k, v.ownBlock = some k → k < g) ∧ B ≤ g ∧ g < W.heap.size
def InRn (w0 : World) (g : Nat) (r : Rn) (A : Option Addr) (cap : Nat) (W : World) : Prop :=
  CellN W g r (.slice A r.cs.length cap) ∧ Ints W g A r.cs ∧ g < W.heap.size ∧ Below g w0 W
theorem InRn.start (w : World) (r : Rn) (A : Option Addr) (cap : Nat) (t : TypeId) (hr : Ints w w.heap.size A r.cs) : InRn w w.heap.size r A cap (w.alloc (.cells (rnC r.size r.base r.en (.slice A r.cs.length cap)) t)) :=
  ⟨Cell4.new w r.size r.base r.en _ t, hr.below (Nat.le_refl _) ((Below.refl _ _).alloc (Nat.le_refl _) _), by simp, (Below.refl _ _).alloc (Nat.le_refl _) _⟩
theorem InRn.next {w0 : World} {g : Nat} {r : Rn} {A : Option Addr} {cap : Nat} {W W' : World} (h : InRn w0 g r A cap W) (hb : Below W.heap.size W W') : InRn w0 g r A cap W' :=
  ⟨h.1.below hb h.2.2.1, h.2.1.below (Nat.le_of_lt h.2.2.1) hb, Nat.lt_of_lt_of_le h.2.2.1 hb.size, h.2.2.2.trans (hb.mono (Nat.le_of_lt h.2.2.1))⟩
theorem InRn.alloc {w0 : World} {g : Nat} {r : Rn} {A : Option Addr} {cap : Nat} {W : World} (h : InRn w0 g r A cap W) (o : Obj) : InRn w0 g r A cap (W.alloc o) := h.next ((Below.refl _ _).alloc (Nat.le_refl _) _)
theorem InRn.drew {w0 : World} {g : Nat} {r : Rn} {A : Option Addr} {cap : Nat} {W : World} (h : InRn w0 g r A cap W) : InRn w0 g r A cap W.drew := h.next (Below.refl _ _).drew
end Go.Proofs.YtdaoaedkjoknmaaGreat

namespace Go.Proofs.YtdaoaedkjoknmaaGreat.Num

structure Ch where
  off : Int
  data : ByteArray
structure Bf where
  next : Int
  chs : List Ch
theorem Ch.ext' {a b : Ch} (h0 : a.off = b.off) (h1 : a.data = b.data) : a = b := by
  cases a; cases b; simp_all
instance : DecidableEq Ch := fun a b => decidable_of_iff (a.off = b.off ∧ a.data = b.data) ⟨fun ⟨h0, h1⟩ => Ch.ext' h0 h1, fun h => by subst h; exact ⟨rfl, rfl⟩⟩
def ckR (c : Ch) : Rg := (c.off, c.off + c.data.size)
def okB (b : Bf) : Prop := okR (b.next - 1) (b.chs.map ckR) ∧ 0 ≤ b.next ∧ b.next ≤ 4611686018427387903
instance (b : Bf) : Decidable (okB b) := by unfold okB; infer_instance
def inC (c : Ch) (o : Int) : Prop := 0 ≤ c.off ∧ c.off ≤ o ∧ o < c.off + c.data.size
instance (c : Ch) (o : Int) : Decidable (inC c o) := by unfold inC; infer_instance
def bytD (d : ByteArray) (k : Nat) : Int := ((d.data.toList.getD k 0).toNat : Int)
def atC (c : Ch) (o : Int) : Int := bytD c.data (o - c.off).toNat
def byteB : List Ch → Int → Int
  | [], _ => -1
  | c :: l, o => if inC c o then atC c o else byteB l o
theorem bytD_in (d : ByteArray) (k : Nat) : 0 ≤ bytD d k ∧ bytD d k ≤ 255 := by
  unfold bytD
  have := (d.data.toList.getD k 0).toNat_lt
  omega
theorem byteB_cases (l : List Ch) (o : Int) : byteB l o = -1 ∨ (0 ≤ byteB l o ∧ byteB l o ≤ 255) := by
  induction l with
  | nil => exact Or.inl rfl
  | cons c l ih =>
    unfold byteB
    split
    · exact Or.inr (bytD_in _ _)
    · exact ih
theorem byteB_has (l : List Ch) : ∀ p, -1 ≤ p → okR p (l.map ckR) → ∀ o, 0 ≤ byteB l o ↔ hasR (l.map ckR) o := by
  induction l with
  | nil =>
    intro p _ _ o
    exact ⟨fun h => by simp [byteB] at h, fun h => absurd h (hasR_nil o)⟩
  | cons c l ih =>
    intro p hp h o
    rw [List.map_cons, hasR_cons]
    have h1 : p < c.off := h.1
    have h2 : c.off < c.off + c.data.size := h.2.1
    have h3 := h.2.2.2
    unfold byteB
    by_cases hi : inC c o
    · rw [if_pos hi]
      exact ⟨fun _ => Or.inl ⟨hi.2.1, hi.2.2⟩, fun _ => (bytD_in _ _).1⟩
    · rw [if_neg hi, ih (c.off + c.data.size) (by omega) h3 o]
      refine ⟨Or.inr, fun h => h.resolve_left fun hh => hi ⟨by omega, hh.1, hh.2⟩⟩
theorem byteB_none (l : List Ch) (p : Int) (hp : -1 ≤ p) (h : okR p (l.map ckR)) (o : Int) (hn : ¬ hasR (l.map ckR) o) : byteB l o = -1 := by
  rcases byteB_cases l o with h1 | h1
  · exact h1
  · exact absurd ((byteB_has l p hp h o).1 h1.1) hn
theorem bytD_ext {a b : ByteArray} (hs : a.size = b.size) (h : ∀ k, k < a.size → bytD a k = bytD b k) : a = b := by
  apply ByteArray.ext
  apply Array.toList_inj.mp
  have hl : a.data.toList.length = a.size := by simp
  have hl2 : b.data.toList.length = b.size := by simp
  apply List.ext_getElem (by omega)
  intro k h1 h2
  have := h k (by omega)
  unfold bytD at this
  rw [List.getD_eq_getElem?_getD, List.getD_eq_getElem?_getD, List.getElem?_eq_getElem h1, List.getElem?_eq_getElem h2] at this
  simp only [Option.getD_some] at this
  exact UInt8.toNat_inj.1 (by omega)
theorem byteB_uniq (l : List Ch) : ∀ (m : List Ch) (p q : Int), -1 ≤ p → -1 ≤ q → okR p (l.map ckR) → okR q (m.map ckR) → (∀ o, byteB l o = byteB m o) → l = m := by
  induction l with
  | nil =>
    intro m p q hp hq _ hm h
    have := okR.uniq (l := []) (m := m.map ckR) (p := p) (q := q) trivial hm fun n => by
      rw [← byteB_has m q hq hm n, ← h n]
      exact ⟨fun hh => absurd hh (hasR_nil n), fun hh => by simp [byteB] at hh⟩
    cases m with
    | nil => rfl
    | cons c m => simp at this
  | cons c l ih =>
    intro m p q hp hq hl hm h
    have hR := okR.uniq hl hm fun n => by rw [← byteB_has (c :: l) p hp hl n, ← byteB_has m q hq hm n, h n]
    cases m with
    | nil => simp at hR
    | cons d m =>
      rw [List.map_cons, List.map_cons] at hR
      injection hR with h1 h2
      have e1 : c.off = d.off := congrArg Prod.fst h1
      have e2 : c.off + c.data.size = d.off + d.data.size := congrArg Prod.snd h1
      have hp1 : p < c.off := hl.1
      have hc2 : c.off < c.off + c.data.size := hl.2.1
      have hl3 : okR (c.off + c.data.size) (l.map ckR) := hl.2.2.2
      have hm3 : okR (d.off + d.data.size) (m.map ckR) := hm.2.2.2
      have hd : c.data = d.data := by
        refine bytD_ext (by omega) fun k hk => ?_
        have := h (c.off + k)
        unfold byteB at this
        rw [if_pos (show inC c (c.off + k) from ⟨by omega, by omega, by omega⟩), if_pos (show inC d (c.off + k) from ⟨by omega, by omega, by omega⟩)] at this
        unfold atC at this
        rw [show (c.off + (k : Int) - c.off).toNat = k by omega, show (c.off + (k : Int) - d.off).toNat = k by omega] at this
        exact this
      have hcd : c = d := Ch.ext' e1 hd
      subst hcd
      congr 1
      refine ih m (c.off + c.data.size) (c.off + c.data.size) (by omega) (by omega) hl3 hm3 fun o => ?_
      by_cases hi : inC c o
      · rw [byteB_none l _ (by omega) hl3 o (fun hh => by have := okR.above hl3 o hh; have := hi.2.2; omega), byteB_none m _ (by omega) hm3 o (fun hh => by have := okR.above hm3 o hh; have := hi.2.2; omega)]
      · have := h o
        unfold byteB at this
        rwa [if_neg hi, if_neg hi] at this
theorem bf_uniq {a b : Bf} (ha : okB a) (hb : okB b) (hn : a.next = b.next) (h : ∀ o, byteB a.chs o = byteB b.chs o) : a = b := by
  have := byteB_uniq a.chs b.chs _ _ (by have := ha.2; omega) (by have := hb.2; omega) ha.1 hb.1 h
  cases a; cases b
  simp_all

def fillL (f : Int → Int) (lo : Int) (n : Nat) : List UInt8 := (List.range n).map fun (k : Nat) => UInt8.ofNat (f (lo + (k : Int))).toNat
def fillC (f : Int → Int) (r : Rg) : Ch := ⟨r.1, ⟨(fillL f r.1 (r.2 - r.1).toNat).toArray⟩⟩
theorem fillL_len (f : Int → Int) (lo : Int) (n : Nat) : (fillL f lo n).length = n := by simp [fillL]
theorem fillC_size (f : Int → Int) (r : Rg) : (fillC f r).data.size = (r.2 - r.1).toNat := by
  show (fillL f r.1 (r.2 - r.1).toNat).toArray.size = _
  simp [fillL_len]
theorem fillC_R (f : Int → Int) (r : Rg) (h : r.1 < r.2) : ckR (fillC f r) = r := by
  unfold ckR
  rw [fillC_size]
  show (r.1, r.1 + ((r.2 - r.1).toNat : Int)) = r
  rw [show r.1 + ((r.2 - r.1).toNat : Int) = r.2 by omega]
theorem fillC_at (f : Int → Int) (hf : ∀ n, 0 ≤ f n ∧ f n ≤ 255) (r : Rg) (o : Int) (h0 : r.1 ≤ o) (h1 : o < r.2) : atC (fillC f r) o = f o := by
  unfold atC bytD
  show (((fillL f r.1 (r.2 - r.1).toNat).getD (o - r.1).toNat 0).toNat : Int) = f o
  have hk : (o - r.1).toNat < (fillL f r.1 (r.2 - r.1).toNat).length := by rw [fillL_len]; omega
  rw [List.getD_eq_getElem?_getD, List.getElem?_eq_getElem hk]
  simp only [fillL, List.getElem_map, List.getElem_range, Option.getD_some]
  rw [show r.1 + ((o - r.1).toNat : Int) = o by omega, UInt8.toNat_ofNat']
  have := hf o
  omega
theorem fill_map (f : Int → Int) (L : List Rg) : ∀ p, okR p L → (L.map (fillC f)).map ckR = L := by
  induction L with
  | nil => intro _ _; rfl
  | cons r L ih =>
    intro p h
    rw [List.map_cons, List.map_cons, fillC_R f r h.2.1, ih _ h.2.2.2]
theorem byteB_fill (f : Int → Int) (hf : ∀ n, 0 ≤ f n ∧ f n ≤ 255) (L : List Rg) : ∀ p, -1 ≤ p → okR p L → ∀ o, (hasR L o → byteB (L.map (fillC f)) o = f o) ∧ (¬ hasR L o → byteB (L.map (fillC f)) o = -1) := by
  induction L with
  | nil => intro p _ _ o; exact ⟨fun h => absurd h (hasR_nil o), fun _ => rfl⟩
  | cons r L ih =>
    intro p hp h o
    have h1 := h.1
    have h2 := h.2.1
    have hsz := fillC_size f r
    have hin : inC (fillC f r) o ↔ r.1 ≤ o ∧ o < r.2 := by
      unfold inC
      rw [hsz]
      show 0 ≤ r.1 ∧ r.1 ≤ o ∧ o < r.1 + ((r.2 - r.1).toNat : Int) ↔ _
      omega
    rw [hasR_cons, List.map_cons]
    unfold byteB
    by_cases hi : inC (fillC f r) o
    · rw [if_pos hi]
      exact ⟨fun _ => fillC_at f hf r o (hin.1 hi).1 (hin.1 hi).2, fun hn => absurd (Or.inl (hin.1 hi)) hn⟩
    · rw [if_neg hi]
      have := ih r.2 (by omega) h.2.2.2 o
      exact ⟨fun hh => this.1 (hh.resolve_left fun x => hi (hin.2 x)), fun hn => this.2 fun x => hn (Or.inr x)⟩

def newB (l : List Ch) (o : Int) (d : ByteArray) (n : Int) : Int := if 0 ≤ byteB l n then byteB l n else bytD d (n - o).toNat
theorem newB_in (l : List Ch) (o : Int) (d : ByteArray) (n : Int) : 0 ≤ newB l o d n ∧ newB l o d n ≤ 255 := by
  unfold newB
  split
  · rcases byteB_cases l n with h | h <;> omega
  · exact bytD_in _ _
def canI (b : Bf) (o : Int) (d : ByteArray) : Prop := okB b ∧ d.size ≠ 0 ∧ 0 ≤ o ∧ o ≤ 4611686018427387903 - d.size ∧ b.next < o + d.size
instance (b : Bf) (o : Int) (d : ByteArray) : Decidable (canI b o d) := by unfold canI; infer_instance
def insB (b : Bf) (o : Int) (d : ByteArray) : Bf :=
  if canI b o d then ⟨b.next, (addR (max o b.next, o + d.size) (b.chs.map ckR)).map (fillC (newB b.chs o d))⟩ else b
theorem ins_okR {b : Bf} {o : Int} {d : ByteArray} (h : canI b o d) : okR (b.next - 1) (addR (max o b.next, o + d.size) (b.chs.map ckR)) :=
  addR_ok _ _ _ h.1.1 (by show b.next - 1 < max o b.next; omega) (by show max o b.next < o + d.size; have := h.2.1; have := h.2.2.2.2; omega) (by show o + (d.size : Int) ≤ _; have := h.2.2.2.1; omega)
theorem insB_ok (b : Bf) (o : Int) (d : ByteArray) (h : okB b) : okB (insB b o d) := by
  unfold insB
  split
  · rename_i hc
    refine ⟨?_, h.2⟩
    show okR (b.next - 1) (((addR (max o b.next, o + d.size) (b.chs.map ckR)).map (fillC (newB b.chs o d))).map ckR)
    rw [fill_map _ _ _ (ins_okR hc)]
    exact ins_okR hc
  · exact h
theorem insB_next (b : Bf) (o : Int) (d : ByteArray) : (insB b o d).next = b.next := by
  unfold insB
  split <;> rfl
theorem insB_byte (b : Bf) (o : Int) (d : ByteArray) (h : canI b o d) (n : Int) :
    byteB (insB b o d).chs n = if 0 ≤ byteB b.chs n then byteB b.chs n else if max o b.next ≤ n ∧ n < o + d.size then bytD d (n - o).toNat else -1 := by
  unfold insB
  rw [if_pos h]
  show byteB ((addR (max o b.next, o + d.size) (b.chs.map ckR)).map (fillC (newB b.chs o d))) n = _
  have hb := byteB_fill (newB b.chs o d) (newB_in _ _ _) _ (b.next - 1) (by have := h.1.2; omega) (ins_okR h) n
  have hh := addR_has (b.chs.map ckR) (b.next - 1) (max o b.next, o + d.size) h.1.1 (by show max o b.next < o + d.size; have := h.2.1; have := h.2.2.2.2; omega) n
  have hz := byteB_has b.chs (b.next - 1) (by have := h.1.2; omega) h.1.1 n
  by_cases h0 : 0 ≤ byteB b.chs n
  · rw [if_pos h0, hb.1 (hh.2 (Or.inl (hz.1 h0)))]
    unfold newB
    rw [if_pos h0]
  · rw [if_neg h0]
    by_cases h1 : max o b.next ≤ n ∧ n < o + d.size
    · rw [if_pos h1, hb.1 (hh.2 (Or.inr h1))]
      unfold newB
      rw [if_neg h0]
    · rw [if_neg h1]
      refine hb.2 fun hx => ?_
      rcases hh.1 hx with hx | hx
      · exact h0 (hz.2 hx)
      · exact h1 hx
def rgsB (b : Bf) : List Rg := if okB b then b.chs.map ckR else []
def rdyB (b : Bf) : Nat := if okB b then (match b.chs with | [] => 0 | c :: _ => if c.off = b.next then c.data.size else 0) else 0
def endB (b : Bf) : Int := if okB b then (match b.chs.getLast? with | none => b.next | some c => c.off + c.data.size) else b.next
def cntT (b : Bf) (m : Int) : Nat := min (rdyB b) (max m 0).toNat
def dropT (b : Bf) (n : Nat) : Bf :=
  if n = 0 then b else match b.chs with
  | [] => b
  | c :: l => ⟨b.next + n, if n = c.data.size then l else ⟨b.next + n, ⟨(c.data.data.toList.drop n).toArray⟩⟩ :: l⟩
def headT (b : Bf) (n : Nat) : ByteArray := if n = 0 then ⟨#[]⟩ else match b.chs with
  | [] => ⟨#[]⟩
  | c :: _ => ⟨(c.data.data.toList.take n).toArray⟩
theorem rdyB_pos {b : Bf} (h : rdyB b ≠ 0) : okB b ∧ ∃ c l, b.chs = c :: l ∧ c.off = b.next ∧ rdyB b = c.data.size := by
  unfold rdyB at h ⊢
  split at h
  · rename_i hok
    refine ⟨hok, ?_⟩
    split at h
    · exact absurd rfl h
    · rename_i c l hl
      split at h
      · rename_i hn
        rw [if_pos hok]
        exact ⟨c, l, hl, hn, if_pos hn⟩
      · exact absurd rfl h
  · exact absurd rfl h
theorem dropT_ok (b : Bf) (m : Int) (h : okB b) : okB (dropT b (cntT b m)) := by
  unfold dropT
  by_cases h0 : cntT b m = 0
  · rw [if_pos h0]; exact h
  · rw [if_neg h0]
    have hr : rdyB b ≠ 0 := by unfold cntT at h0; omega
    obtain ⟨_, c, l, hl, hn, hs⟩ := rdyB_pos hr
    have hle : cntT b m ≤ c.data.size := by unfold cntT; omega
    generalize cntT b m = n at *
    rw [hl]
    have h1 := h.1
    rw [hl] at h1
    have h3 : okR (c.off + c.data.size) (l.map ckR) := h1.2.2.2
    have hmx : c.off + (c.data.size : Int) ≤ 4611686018427387903 := h1.2.2.1
    have h20 := h.2
    refine ⟨?_, by show 0 ≤ b.next + (n : Int); omega, by show b.next + (n : Int) ≤ _; omega⟩
    show okR (b.next + (n : Int) - 1) (List.map ckR (if n = c.data.size then l else _ :: l))
    by_cases hnc : n = c.data.size
    · rw [if_pos hnc]
      exact okR.weaker h3 (by omega)
    · rw [if_neg hnc, List.map_cons]
      have hds : (⟨(c.data.data.toList.drop n).toArray⟩ : ByteArray).size = c.data.size - n := by
        show (c.data.data.toList.drop n).toArray.size = _
        simp
      unfold okR ckR
      rw [hds]
      refine ⟨by show b.next + (n : Int) - 1 < b.next + n; omega, by show b.next + (n : Int) < b.next + n + ((c.data.size - n : Nat) : Int); omega, by show b.next + (n : Int) + ((c.data.size - n : Nat) : Int) ≤ _; omega, ?_⟩
      show okR (b.next + (n : Int) + ((c.data.size - n : Nat) : Int)) (l.map ckR)
      rw [show b.next + (n : Int) + ((c.data.size - n : Nat) : Int) = c.off + c.data.size by omega]
      exact h3
theorem headT_size (b : Bf) (m : Int) : (headT b (cntT b m)).size = cntT b m := by
  unfold headT
  by_cases h0 : cntT b m = 0
  · rw [if_pos h0, h0]; rfl
  · rw [if_neg h0]
    have hr : rdyB b ≠ 0 := by unfold cntT at h0; omega
    obtain ⟨_, c, l, hl, hn, hs⟩ := rdyB_pos hr
    have hle : cntT b m ≤ c.data.size := by unfold cntT; omega
    rw [hl]
    show (c.data.data.toList.take (cntT b m)).toArray.size = _
    simp
    omega
theorem headT_byte (b : Bf) (m : Int) (i : Nat) (h : i < cntT b m) : bytD (headT b (cntT b m)) i = byteB b.chs (b.next + i) := by
  have h0 : cntT b m ≠ 0 := by omega
  have hr : rdyB b ≠ 0 := by unfold cntT at h0; omega
  obtain ⟨hok, c, l, hl, hn, hs⟩ := rdyB_pos hr
  have hle : cntT b m ≤ c.data.size := by unfold cntT; omega
  have h20 := hok.2
  unfold headT
  rw [if_neg h0, hl]
  unfold byteB
  rw [if_pos (show inC c (b.next + i) from ⟨by omega, by omega, by omega⟩)]
  unfold atC bytD
  show (((c.data.data.toList.take (cntT b m)).getD i 0).toNat : Int) = _
  rw [show (b.next + (i : Int) - c.off).toNat = i by omega]
  rw [List.getD_eq_getElem?_getD, List.getD_eq_getElem?_getD, List.getElem?_take_of_lt h]
end Go.Proofs.YtdaoaedkjoknmaaGreat.Num

namespace Go.Proofs.YtdaoaedkjoknmaaGreat.Num
theorem cntR_cons (x : Rg) (l : List Rg) : cntR (x :: l) = (x.2 - x.1) + cntR l := rfl
theorem addR_eq (r x : Rg) (l : List Rg) : addR r (x :: l) = if x.2 < r.1 then x :: addR r l else if r.2 < x.1 then r :: x :: l else addR (min r.1 x.1, max r.2 x.2) l := by rw [addR]
theorem addR_nil (r : Rg) : addR r [] = [r] := by rw [addR]
theorem addR_cnt (l : List Rg) : ∀ (p : Int) (r : Rg), okR p l → r.1 < r.2 → cntR (addR r l) ≤ cntR l + (r.2 - r.1) := by
  induction l with
  | nil => intro p r _ _; rw [addR_nil, cntR_cons]; simp [cntR]
  | cons x l ih =>
    intro p r h hr
    have h2 := h.2.1
    rw [addR_eq, cntR_cons]
    split
    · rw [cntR_cons]
      have := ih x.2 r h.2.2.2 hr
      omega
    · split
      · rw [cntR_cons, cntR_cons]
        omega
      · have := ih x.2 (min r.1 x.1, max r.2 x.2) h.2.2.2 (by show min r.1 x.1 < max r.2 x.2; omega)
        simp only at this
        omega
theorem addR_len (l : List Rg) : ∀ (r : Rg), (addR r l).length ≤ l.length + 1 := by
  induction l with
  | nil => intro r; rw [addR_nil]; simp
  | cons x l ih =>
    intro r
    rw [addR_eq]
    split
    · have := ih r
      simp only [List.length_cons]
      omega
    · split
      · simp
      · have := ih (min r.1 x.1, max r.2 x.2)
        simp only [List.length_cons]
        omega
def sumC : List Ch → Int
  | [] => 0
  | c :: l => c.data.size + sumC l
theorem sumC_nonneg (l : List Ch) : 0 ≤ sumC l := by
  induction l with
  | nil => simp [sumC]
  | cons c l ih => simp only [sumC]; omega
theorem sumC_mem (l : List Ch) : ∀ c ∈ l, (c.data.size : Int) ≤ sumC l := by
  induction l with
  | nil => intro c hc; cases hc
  | cons x l ih =>
    intro c hc
    have := sumC_nonneg l
    simp only [sumC]
    rcases List.mem_cons.1 hc with rfl | hc
    · omega
    · have := ih c hc
      omega
theorem sumC_cnt (l : List Ch) : cntR (l.map ckR) = sumC l := by
  induction l with
  | nil => rfl
  | cons c l ih =>
    rw [List.map_cons, cntR_cons, ih]
    simp only [sumC, ckR]
    omega
theorem sumC_fill (f : Int → Int) (L : List Rg) : ∀ p, okR p L → sumC (L.map (fillC f)) = cntR L := by
  intro p h
  rw [← sumC_cnt, fill_map f L p h]
end Go.Proofs.YtdaoaedkjoknmaaGreat.Num

namespace Go.Proofs.YtdaoaedkjoknmaaGreat.Num

theorem insB_sum (b : Bf) (o : Int) (d : ByteArray) (h : okB b) : sumC (insB b o d).chs ≤ sumC b.chs + d.size := by
  unfold insB
  split
  · rename_i hc
    show sumC ((addR (max o b.next, o + d.size) (b.chs.map ckR)).map (fillC (newB b.chs o d))) ≤ _
    rw [sumC_fill _ _ _ (ins_okR hc)]
    have h3 := addR_cnt (b.chs.map ckR) (b.next - 1) (max o b.next, o + d.size) h.1 (by show max o b.next < o + d.size; have := hc.2.1; have := hc.2.2.2.2; omega)
    rw [sumC_cnt] at h3
    simp only at h3
    omega
  · omega
theorem insB_len2 (b : Bf) (o : Int) (d : ByteArray) : (insB b o d).chs.length ≤ b.chs.length + 1 := by
  unfold insB
  split
  · show (List.map _ _).length ≤ _
    rw [List.length_map]
    have := addR_len (b.chs.map ckR) (max o b.next, o + d.size)
    rw [List.length_map] at this
    exact this
  · omega
theorem okB_off {b : Bf} (h : okB b) : ∀ c ∈ b.chs, 0 ≤ c.off ∧ c.off ≤ 4611686018427387903 := by
  intro c hc
  have h1 := okR.below h.1 (ckR c) (List.mem_map_of_mem hc)
  have h2 : b.next - 1 < c.off := h1.1
  have h3 : c.off < c.off + c.data.size := h1.2.1
  have h4 : c.off + (c.data.size : Int) ≤ 4611686018427387903 := h1.2.2
  have h5 := h.2
  omega
def smallB (b : Bf) : Prop := b.chs.length ≤ 10 ∧ sumC b.chs ≤ 100 ∧ (∀ c ∈ b.chs, -9223372036854775808 ≤ c.off ∧ c.off ≤ 9223372036854775807) ∧ -9223372036854775808 ≤ b.next ∧ b.next ≤ 9223372036854775807
end Go.Proofs.YtdaoaedkjoknmaaGreat.Num

namespace Go.Proofs.YtdaoaedkjoknmaaGreat.Num

theorem last_max (l : List Ch) : ∀ p, okR p (l.map ckR) → ∀ c ∈ l, ∀ z, l.getLast? = some z → c.off + (c.data.size : Int) ≤ z.off + z.data.size := by
  induction l with
  | nil => intro p _ c hc; cases hc
  | cons x l ih =>
    intro p h c hc z hz
    have h3 : okR (x.off + x.data.size) (l.map ckR) := h.2.2.2
    cases l with
    | nil =>
      simp at hz
      obtain rfl := List.mem_singleton.1 hc
      rw [hz]
      exact Int.le_refl _
    | cons y l =>
      rw [List.getLast?_cons_cons] at hz
      rcases List.mem_cons.1 hc with rfl | hc
      · have hzm : z ∈ y :: l := List.mem_of_getLast? hz
        have h4 := okR.below h3 (ckR z) (List.mem_map_of_mem hzm)
        have h5 : c.off + (c.data.size : Int) < z.off := h4.1
        omega
      · exact ih _ h3 c hc z hz
theorem endB_max {b : Bf} (h : okB b) : ∀ c ∈ b.chs, c.off + (c.data.size : Int) ≤ endB b := by
  intro c hc
  unfold endB
  rw [if_pos h]
  cases hz : b.chs.getLast? with
  | none =>
    rw [List.getLast?_eq_none_iff] at hz
    rw [hz] at hc
    cases hc
  | some z => exact last_max b.chs _ h.1 c hc z hz
theorem endB_ge {b : Bf} (h : okB b) : b.next ≤ endB b := by
  unfold endB
  rw [if_pos h]
  cases hz : b.chs.getLast? with
  | none => exact Int.le_refl _
  | some z =>
    have h4 := okR.below h.1 (ckR z) (List.mem_map_of_mem (List.mem_of_getLast? hz))
    have h5 : b.next - 1 < z.off := h4.1
    have h6 : z.off < z.off + z.data.size := h4.2.1
    show b.next ≤ z.off + (z.data.size : Int)
    omega
end Go.Proofs.YtdaoaedkjoknmaaGreat.Num

namespace Go.Proofs.YtdaoaedkjoknmaaGreat.Num

structure Sn where
  st : Int
  rn : Rn
  pe : List Rg
  fl : List Rg
  ac : List Rg
  fin : Int
  fi : Int
  sent : Int
  code : Int
def in64 (n : Int) : Prop := -9223372036854775808 ≤ n ∧ n ≤ 9223372036854775807
def inSn (s : Sn) : Prop := in64 s.st ∧ inRn s.rn ∧ in64 s.fin ∧ in64 s.fi ∧ in64 s.sent ∧ in64 s.code
def folS (s : Sn) : Int := if s.fi = 3 ∧ s.rn.base = s.rn.en then 3 else if 1 < s.fi ∨ (s.fi = 1 ∧ s.st = 2) then 2 else if 0 < s.sent ∨ (s.fi = 1 ∧ s.st = 1) then 1 else 0
def fitS (s : Sn) : Prop := okRn s.rn ∧ okR (-1) s.pe ∧ okR (-1) s.fl ∧ okR (-1) s.ac ∧ (0 ≤ s.sent ∧ s.sent ≤ s.rn.en) ∧ (0 ≤ s.code ∧ s.code ≤ 4611686018427387903) ∧ 0 ≤ s.fi ∧ s.fi ≤ 3
instance (s : Sn) : Decidable (fitS s) := by unfold fitS; infer_instance
def rstS (s : Sn) : Prop := s.rn.base = s.rn.en ∧ s.pe = [] ∧ s.fl = [] ∧ s.ac = [] ∧ s.fin = s.sent ∧ s.fi = 0 ∧ s.sent = s.rn.en
instance (s : Sn) : Decidable (rstS s) := by unfold rstS; infer_instance
def joinS (a l : List Rg) : List Rg := l.foldl (fun m r => if okR (-1) m ∧ fineR r then addR r m else m) a
def allS (s : Sn) : List Rg := joinS (joinS s.pe s.fl) s.ac
def endS (s : Sn) : Prop := gapR s.ac 0 = s.rn.base ∧ s.code = 0 ∧ (∀ r ∈ s.fl, r.2 ≤ s.sent) ∧ (∀ r ∈ s.ac, r.2 ≤ s.sent) ∧ (s.fi = 0 ↔ s.fin = -1) ∧ (s.fin ≠ -1 → s.fin = s.rn.en) ∧ s.st = folS s
instance (s : Sn) : Decidable (endS s) := by unfold endS; infer_instance
def highS : List Rg → Int
  | [] => 0
  | r :: _ => r.2
def sumS (s : Sn) : Prop := cntR (allS s) = s.rn.en ∧ cntR s.pe + cntR s.fl + cntR s.ac = s.rn.en ∧ (0 < s.rn.en → highS (allS s) = s.rn.en)
instance (s : Sn) : Decidable (sumS s) := by unfold sumS; infer_instance
def okSn (s : Sn) : Prop := fitS s ∧ if s.st = 4 ∨ s.st = 5 then rstS s else sumS s ∧ endS s
instance (s : Sn) : Decidable (okSn s) := by unfold okSn; infer_instance
def wholeS (s : Sn) : Prop := (∀ n, hasR s.pe n ∨ hasR s.fl n ∨ hasR s.ac n ↔ 0 ≤ n ∧ n < s.rn.en) ∧ (∀ n, ¬ (hasR s.pe n ∧ hasR s.fl n)) ∧ (∀ n, ¬ (hasR s.pe n ∧ hasR s.ac n)) ∧ ∀ n, ¬ (hasR s.fl n ∧ hasR s.ac n)
def whL (e : Int) : List Rg := if e ≤ 0 then [] else [(0, e)]
def listS (s : Sn) : Prop := allS s = whL s.rn.en ∧ cntR s.pe + cntR s.fl + cntR s.ac = s.rn.en
instance (s : Sn) : Decidable (listS s) := by unfold listS; infer_instance
def docSn (s : Sn) : Prop := fitS s ∧ if s.st = 4 ∨ s.st = 5 then rstS s else listS s ∧ endS s
instance (s : Sn) : Decidable (docSn s) := by unfold docSn; infer_instance
theorem joinS_cons (a : List Rg) (r : Rg) (l : List Rg) : joinS a (r :: l) = joinS (if okR (-1) a ∧ fineR r then addR r a else a) l := rfl
theorem joinS_has (l : List Rg) : ∀ (a : List Rg) (p : Int), -1 ≤ p → okR (-1) a → okR p l → okR (-1) (joinS a l) ∧ ∀ n, hasR (joinS a l) n ↔ hasR a n ∨ hasR l n := by
  induction l with
  | nil => intro a p _ ha _; exact ⟨ha, fun n => ⟨.inl, fun h => h.resolve_right (hasR_nil n)⟩⟩
  | cons r l ih =>
    intro a p hp ha hl
    have h1 := okR.below hl r (List.mem_cons_self ..)
    have hf : fineR r := ⟨by omega, h1.2.1, h1.2.2⟩
    rw [joinS_cons, if_pos ⟨ha, hf⟩]
    have hk := addR_ok a (-1) r ha (by have := hf.1; omega) hf.2.1 hf.2.2
    obtain ⟨h2, h3⟩ := ih (addR r a) r.2 (by have := hf.1; have := hf.2.1; omega) hk (by
      have := hl
      simp only [okR] at this
      exact this.2.2.2)
    refine ⟨h2, fun n => ?_⟩
    rw [h3, addR_has a (-1) r ha hf.2.1, hasR_cons]
    constructor
    · rintro ((h | h) | h)
      · exact .inl h
      · exact .inr (.inl h)
      · exact .inr (.inr h)
    · rintro (h | h | h)
      · exact .inl (.inl h)
      · exact .inl (.inr h)
      · exact .inr h
theorem addR_cnt_eq (l : List Rg) : ∀ (p : Int) (r : Rg), okR p l → r.1 < r.2 → (∀ n, r.1 ≤ n → n < r.2 → ¬ hasR l n) → cntR (addR r l) = cntR l + (r.2 - r.1) := by
  induction l with
  | nil => intro p r _ _ _; rw [addR_nil, cntR_cons]; show _ + cntR [] = cntR [] + _; omega
  | cons x l ih =>
    intro p r hl hr hd
    obtain ⟨h1, h2, h3, h4⟩ := hl
    have hdx : ∀ n, r.1 ≤ n → n < r.2 → ¬ (x.1 ≤ n ∧ n < x.2) := fun n a b c => hd n a b ((hasR_cons x l n).2 (.inl c))
    have hdl : ∀ n, r.1 ≤ n → n < r.2 → ¬ hasR l n := fun n a b c => hd n a b ((hasR_cons x l n).2 (.inr c))
    rw [addR_eq, cntR_cons]
    split
    · rw [cntR_cons, ih x.2 r h4 hr hdl]; omega
    · split
      · rw [cntR_cons, cntR_cons]; omega
      · have ho : x.2 ≤ r.1 ∨ r.2 ≤ x.1 := by
          by_cases h : x.2 ≤ r.1
          · exact .inl h
          · refine .inr (Int.not_lt.1 fun h5 => hdx (max r.1 x.1) (by omega) (by omega) ⟨by omega, by omega⟩)
        rw [ih x.2 (min r.1 x.1, max r.2 x.2) h4 (by show min r.1 x.1 < max r.2 x.2; omega) (fun n a b c => by
          have hab := okR.above h4 n c
          by_cases h6 : r.1 ≤ n ∧ n < r.2
          · exact hdl n h6.1 h6.2 c
          · have a' : min r.1 x.1 ≤ n := a
            have b' : n < max r.2 x.2 := b
            omega)]
        show cntR l + (max r.2 x.2 - min r.1 x.1) = _
        omega
theorem addR_cnt_lt (l : List Rg) : ∀ (p : Int) (r : Rg) (n : Int), okR p l → r.1 ≤ n → n < r.2 → hasR l n → cntR (addR r l) < cntR l + (r.2 - r.1) := by
  induction l with
  | nil => intro p r n _ _ _ h; exact absurd h (hasR_nil n)
  | cons x l ih =>
    intro p r n hl h1 h2 hn
    obtain ⟨g1, g2, g3, g4⟩ := hl
    rw [hasR_cons] at hn
    have hab : hasR l n → x.2 < n := okR.above g4 n
    rw [addR_eq, cntR_cons]
    split
    · have := ih x.2 r n g4 h1 h2 (hn.resolve_left (by omega))
      rw [cntR_cons]; omega
    · split
      · rcases hn with h | h
        · omega
        · have := hab h; omega
      · rcases hn with h | h
        · have := addR_cnt l x.2 (min r.1 x.1, max r.2 x.2) g4 (by show min r.1 x.1 < max r.2 x.2; omega)
          have e : ((min r.1 x.1, max r.2 x.2) : Rg).2 - ((min r.1 x.1, max r.2 x.2) : Rg).1 = max r.2 x.2 - min r.1 x.1 := rfl
          rw [e] at this
          omega
        · have := ih x.2 (min r.1 x.1, max r.2 x.2) n g4 (by show min r.1 x.1 ≤ n; omega) (by show n < max r.2 x.2; omega) h
          have e : ((min r.1 x.1, max r.2 x.2) : Rg).2 - ((min r.1 x.1, max r.2 x.2) : Rg).1 = max r.2 x.2 - min r.1 x.1 := rfl
          rw [e] at this
          omega
theorem okR_fine {p : Int} {r : Rg} {l : List Rg} (hp : -1 ≤ p) (h : okR p (r :: l)) : fineR r ∧ okR r.2 l ∧ -1 ≤ r.2 := by
  obtain ⟨h1, h2, h3, h4⟩ := h
  exact ⟨⟨by omega, h2, h3⟩, h4, by omega⟩
theorem joinS_cnt (l : List Rg) : ∀ (a : List Rg) (p : Int), -1 ≤ p → okR (-1) a → okR p l → cntR (joinS a l) ≤ cntR a + cntR l ∧ (cntR (joinS a l) = cntR a + cntR l ↔ ∀ n, ¬ (hasR a n ∧ hasR l n)) := by
  induction l with
  | nil => intro a p _ _ _; exact ⟨by show cntR a ≤ cntR a + 0; omega, ⟨fun _ n h => hasR_nil n h.2, fun _ => by show cntR a = cntR a + 0; omega⟩⟩
  | cons r l ih =>
    intro a p hp ha hl
    obtain ⟨hf, h4, h5⟩ := okR_fine hp hl
    rw [joinS_cons, if_pos ⟨ha, hf⟩, cntR_cons]
    have hk := addR_ok a (-1) r ha (by have := hf.1; omega) hf.2.1 hf.2.2
    obtain ⟨i1, i2⟩ := ih (addR r a) r.2 h5 hk h4
    have hle := addR_cnt a (-1) r ha hf.2.1
    refine ⟨by omega, ⟨fun he n hn => ?_, fun hd => ?_⟩⟩
    · have e1 : cntR (addR r a) = cntR a + (r.2 - r.1) := by omega
      have hd2 := i2.1 (by omega)
      rcases (hasR_cons r l n).1 hn.2 with h | h
      · have := addR_cnt_lt a (-1) r n ha h.1 h.2 hn.1
        omega
      · exact hd2 n ⟨(addR_has a (-1) r ha hf.2.1 n).2 (.inl hn.1), h⟩
    · have e1 := addR_cnt_eq a (-1) r ha hf.2.1 (fun n a1 a2 a3 => hd n ⟨a3, (hasR_cons r l n).2 (.inl ⟨a1, a2⟩)⟩)
      rw [i2.2 (fun n hn => ?_)]
      · omega
      · rcases (addR_has a (-1) r ha hf.2.1 n).1 hn.1 with h | h
        · exact hd n ⟨h, (hasR_cons r l n).2 (.inr hn.2)⟩
        · have := okR.above h4 n hn.2
          omega
theorem whL_ok {e : Int} (h : e ≤ 4611686018427387903) : okR (-1) (whL e) := by
  unfold whL
  split
  · trivial
  · exact ⟨show (-1 : Int) < 0 by decide, show (0 : Int) < e by omega, h, trivial⟩
theorem whL_has (e n : Int) : hasR (whL e) n ↔ 0 ≤ n ∧ n < e := by
  unfold whL
  split
  · exact ⟨fun h => absurd h (hasR_nil n), fun h => by omega⟩
  · rw [hasR_cons]
    exact ⟨fun h => h.resolve_right (hasR_nil n), .inl⟩
theorem whL_cnt {e : Int} (h : 0 ≤ e) : cntR (whL e) = e := by
  unfold whL
  split
  · show (0 : Int) = e; omega
  · show e - 0 + 0 = e; omega
theorem listS_whole {s : Sn} (h : fitS s) : listS s ↔ wholeS s := by
  obtain ⟨h1, h2, h3, h4, h5, _⟩ := h
  have he : s.rn.en ≤ 4611686018427387903 := h1.2.2.2.2.2.1
  obtain ⟨k1, k2⟩ := joinS_has s.fl s.pe (-1) (Int.le_refl _) h2 h3
  obtain ⟨k3, k4⟩ := joinS_has s.ac _ (-1) (Int.le_refl _) k1 h4
  obtain ⟨c1, c2⟩ := joinS_cnt s.fl s.pe (-1) (Int.le_refl _) h2 h3
  obtain ⟨c3, c4⟩ := joinS_cnt s.ac _ (-1) (Int.le_refl _) k1 h4
  have hall : ∀ n, hasR (allS s) n ↔ hasR s.pe n ∨ hasR s.fl n ∨ hasR s.ac n := fun n => by
    unfold allS
    rw [k4, k2, or_assoc]
  constructor
  · rintro ⟨e1, e2⟩
    have e3 : cntR (allS s) = s.rn.en := by rw [e1]; exact whL_cnt (by omega)
    unfold allS at e3
    have d1 := c2.1 (by omega)
    have d2 := c4.1 (by omega)
    refine ⟨fun n => ?_, d1, fun n hn => d2 n ⟨(k2 n).2 (.inl hn.1), hn.2⟩, fun n hn => d2 n ⟨(k2 n).2 (.inr hn.1), hn.2⟩⟩
    rw [← hall, e1, whL_has]
  · rintro ⟨u, d1, d2, d3⟩
    have e1 : allS s = whL s.rn.en := okR.uniq k3 (whL_ok he) (fun n => by
      rw [whL_has, ← u n]
      exact hall n)
    have e2 := c2.2 d1
    have e3 := c4.2 (fun n hn => by
      rcases (k2 n).1 hn.1 with h | h
      · exact d2 n ⟨h, hn.2⟩
      · exact d3 n ⟨h, hn.2⟩)
    refine ⟨e1, ?_⟩
    have e4 : cntR (allS s) = s.rn.en := by rw [e1]; exact whL_cnt (by omega)
    unfold allS at e4
    omega
end Go.Proofs.YtdaoaedkjoknmaaGreat.Num

namespace Go.Proofs.YtdaoaedkjoknmaaGreat.Num

structure Pc where
  off : Int
  data : ByteArray
  fin : Bool
def addL (l : List Rg) (r : Rg) : List Rg := if okR (-1) l ∧ fineR r then addR r l else l
def remL (l : List Rg) (r : Rg) : List Rg := if okR (-1) l ∧ fineR r then remR r l else l
theorem addL_ok {l : List Rg} {r : Rg} (h : okR (-1) l) (hr : fineR r) : okR (-1) (addL l r) ∧ ∀ n, hasR (addL l r) n ↔ hasR l n ∨ (r.1 ≤ n ∧ n < r.2) := by
  unfold addL
  rw [if_pos ⟨h, hr⟩]
  exact ⟨addR_ok l (-1) r h (by have := hr.1; omega) hr.2.1 hr.2.2, addR_has l (-1) r h hr.2.1⟩
theorem remL_ok {l : List Rg} {r : Rg} (h : okR (-1) l) (hr : fineR r) : okR (-1) (remL l r) ∧ ∀ n, hasR (remL l r) n ↔ hasR l n ∧ ¬ (r.1 ≤ n ∧ n < r.2) := by
  unfold remL
  rw [if_pos ⟨h, hr⟩]
  exact ⟨remR_ok r hr.2.1 l (-1) h, remR_has r hr.2.1 l⟩
def canW (b : Bool) (s : Sn) : Prop := b = true ∧ s.st ≤ 1 ∧ s.fin = -1
instance (b : Bool) (s : Sn) : Decidable (canW b s) := by unfold canW; infer_instance
def wrS (b : Bool) (s : Sn) (d : ByteArray) : Sn :=
  if canW b s then { s with rn := wrR s.rn d, pe := if 0 < cntW s.rn d then addL s.pe (s.rn.en, s.rn.en + cntW s.rn d) else s.pe } else s
def wrNS (b : Bool) (s : Sn) (d : ByteArray) : Nat := if canW b s then cntW s.rn d else 0
def clS (b : Bool) (s : Sn) : Sn := if canW b s then { s with fin := s.rn.en, fi := 1 } else s
def canR (b : Bool) (s : Sn) (c : Int) : Prop := b = true ∧ s.st ≤ 2 ∧ 0 ≤ c ∧ c ≤ 4611686018427387903
instance (b : Bool) (s : Sn) (c : Int) : Decidable (canR b s c) := by unfold canR; infer_instance
def rsS (b : Bool) (s : Sn) (c : Int) : Sn :=
  if canR b s c then ⟨4, ⟨s.rn.size, s.sent, s.sent, List.replicate s.rn.size.toNat 0⟩, [], [], [], s.sent, 0, s.sent, c⟩ else s
def cutS (r : Rg) (most limit : Int) : Int := if most < min r.2 limit - r.1 then r.1 + max most 0 else min r.2 limit
def nxS (b : Bool) (s : Sn) (most limit : Int) : Option Pc :=
  if ¬ (b = true ∧ s.st ≤ 2) then none
  else match s.pe with
    | r :: _ => if min r.2 limit ≤ r.1 ∨ cutS r most limit ≤ r.1 then none else some ⟨r.1, pkR s.rn r.1 (cutS r most limit - r.1), decide (s.fi = 1) && decide (cutS r most limit = s.fin)⟩
    | [] => if s.fi = 1 then some ⟨s.fin, ⟨#[]⟩, true⟩ else none
def pcR (p : Pc) : Rg := (p.off, p.off + p.data.size)
def inP (s : Sn) (p : Pc) : Prop := 0 ≤ p.off ∧ p.off ≤ s.rn.en ∧ (p.data.size : Int) ≤ s.rn.en - p.off ∧ (p.fin = true → s.fin ≠ -1 ∧ p.off + p.data.size = s.fin)
instance (s : Sn) (p : Pc) : Decidable (inP s p) := by unfold inP; infer_instance
def canS (b : Bool) (s : Sn) (p : Pc) : Prop := (b = true ∧ s.st ≤ 2 ∧ inP s p ∧ (p.data.size ≠ 0 ∨ p.fin = true) ∧ (p.fin = true → s.fi = 1)) ∧ (p.data.size ≠ 0 → comR s.pe [pcR p] = [pcR p])
instance (b : Bool) (s : Sn) (p : Pc) : Decidable (canS b s p) := by unfold canS; infer_instance
def fixS (s : Sn) : Sn := { s with st := folS s }
def sdS (b : Bool) (s : Sn) (p : Pc) : Sn :=
  if canS b s p then fixS { s with pe := if p.data.size ≠ 0 then remL s.pe (pcR p) else s.pe, fl := if p.data.size ≠ 0 then addL s.fl (pcR p) else s.fl, sent := if p.data.size ≠ 0 then max s.sent (pcR p).2 else s.sent, fi := if p.fin = true then 2 else s.fi } else s
def canA (b : Bool) (s : Sn) (p : Pc) : Prop := b = true ∧ s.st ≤ 2 ∧ inP s p
instance (b : Bool) (s : Sn) (p : Pc) : Decidable (canA b s p) := by unfold canA; infer_instance
def remLs (l c : List Rg) : List Rg := c.foldl remL l
def addLs (l c : List Rg) : List Rg := c.foldl addL l
def comS (s : Sn) (p : Pc) : List Rg := if p.data.size ≠ 0 then comR s.fl [pcR p] else []
def akS (b : Bool) (s : Sn) (p : Pc) : Sn :=
  if canA b s p then
    let ac := addLs s.ac (comS s p)
    fixS { s with fl := remLs s.fl (comS s p), ac := ac, fi := if p.fin = true ∧ s.fi = 2 then 3 else s.fi, rn := drR s.rn (if okR (-1) ac then gapR ac 0 else -1) }
  else s
def loS (b : Bool) (s : Sn) (p : Pc) : Sn :=
  if canA b s p then fixS { s with fl := remLs s.fl (comS s p), pe := addLs s.pe (comS s p), fi := if p.fin = true ∧ s.fi = 2 then 1 else s.fi } else s
def arS (b : Bool) (s : Sn) : Sn := if b = true ∧ s.st = 4 then { s with st := 5 } else s

theorem folS_in (s : Sn) : 0 ≤ folS s ∧ folS s ≤ 3 := by
  unfold folS
  split
  · omega
  · split
    · omega
    · split <;> omega
theorem folS_fix (s : Sn) : folS (fixS s) = folS s := by
  unfold fixS folS
  dsimp only
  by_cases h1 : s.fi = 3 ∧ s.rn.base = s.rn.en
  · rw [if_pos h1, if_pos h1]
  · rw [if_neg h1, if_neg h1]
    by_cases h2 : 1 < s.fi ∨ (s.fi = 1 ∧ s.st = 2)
    · rw [if_pos h2, if_pos (show 1 < s.fi ∨ (s.fi = 1 ∧ (2 : Int) = 2) by omega)]
    · rw [if_neg h2]
      by_cases h3 : 0 < s.sent ∨ (s.fi = 1 ∧ s.st = 1)
      · rw [if_pos h3, if_neg (by omega), if_pos (show 0 < s.sent ∨ (s.fi = 1 ∧ (1 : Int) = 1) by omega)]
      · rw [if_neg h3, if_neg (by omega), if_neg (by omega)]
theorem hasR_mem {l : List Rg} {r : Rg} (h : r ∈ l) (hr : r.1 < r.2) : hasR l (r.2 - 1) := ⟨r, h, by omega, by omega⟩
theorem okR_high {l : List Rg} {B : Int} (h : okR (-1) l) : (∀ r ∈ l, r.2 ≤ B) ↔ ∀ n, hasR l n → n < B := by
  constructor
  · rintro h1 n ⟨r, hr, h2, h3⟩
    have := h1 r hr
    omega
  · intro h1 r hr
    have := h1 _ (hasR_mem hr (okR.below h r hr).2.1)
    omega
theorem gapR_full (l : List Rg) : ∀ p n m, okR p l → n ≤ m → m < gapR l n → hasR l m := by
  induction l with
  | nil => intro p n m _ h1 h2; have h3 : m < n := h2; omega
  | cons x l ih =>
    intro p n m h h1 h2
    obtain ⟨a1, a2, a3, a4⟩ := h
    rw [hasR_cons]
    have h3 : m < gapR l (if x.1 ≤ n ∧ n < x.2 then x.2 else n) := h2
    by_cases hc : x.1 ≤ n ∧ n < x.2
    · rw [if_pos hc, gapR_low l x.2 x.2 a4 (Int.le_refl _)] at h3
      exact .inl ⟨by omega, h3⟩
    · rw [if_neg hc] at h3
      exact .inr (ih x.2 n m a4 h1 h3)
theorem addLs_ok (c : List Rg) : ∀ (l : List Rg) (p : Int), -1 ≤ p → okR (-1) l → okR p c → okR (-1) (addLs l c) ∧ ∀ n, hasR (addLs l c) n ↔ hasR l n ∨ hasR c n := joinS_has c
theorem remLs_ok (c : List Rg) : ∀ (l : List Rg) (p : Int), -1 ≤ p → okR (-1) l → okR p c → okR (-1) (remLs l c) ∧ ∀ n, hasR (remLs l c) n ↔ hasR l n ∧ ¬ hasR c n := by
  induction c with
  | nil => intro l p _ h _; exact ⟨h, fun n => ⟨fun h => ⟨h, hasR_nil n⟩, fun h => h.1⟩⟩
  | cons r c ih =>
    intro l p hp hl hc
    obtain ⟨hf, h4, h5⟩ := okR_fine hp hc
    obtain ⟨k1, k2⟩ := remL_ok hl hf
    obtain ⟨i1, i2⟩ := ih (remL l r) r.2 h5 k1 h4
    refine ⟨i1, fun n => ?_⟩
    show hasR (remLs (remL l r) c) n ↔ _
    rw [i2, k2, hasR_cons]
    constructor
    · rintro ⟨⟨a, b⟩, d⟩
      exact ⟨a, fun h => h.elim b d⟩
    · rintro ⟨a, b⟩
      exact ⟨⟨a, fun h => b (.inl h)⟩, fun h => b (.inr h)⟩
theorem comS_ok {s : Sn} {p : Pc} (hk : okR (-1) s.fl) (hp : inP s p) (he : s.rn.en ≤ 4611686018427387903) : okR (-1) (comS s p) ∧ ∀ n, hasR (comS s p) n ↔ hasR s.fl n ∧ p.off ≤ n ∧ n < p.off + p.data.size := by
  unfold comS
  obtain ⟨h0, h1, h2, _⟩ := hp
  split
  · rename_i hd
    have hf : okR (-1) [pcR p] := ⟨by show (-1 : Int) < p.off; omega, by show p.off < p.off + p.data.size; omega, by show p.off + (p.data.size : Int) ≤ _; omega, trivial⟩
    refine ⟨comR_ok _ hf s.fl (-1) (Int.le_refl _) hk, fun n => ?_⟩
    rw [comR_has, hasR_cons]
    exact ⟨fun h => ⟨h.1, h.2.resolve_right (hasR_nil n)⟩, fun h => ⟨h.1, .inl h.2⟩⟩
  · rename_i hd
    refine ⟨trivial, fun n => ⟨fun h => absurd h (hasR_nil n), fun h => ?_⟩⟩
    have : p.data.size = 0 := Decidable.not_not.1 hd
    omega
end Go.Proofs.YtdaoaedkjoknmaaGreat.Num

namespace Go.Proofs.YtdaoaedkjoknmaaGreat
open Go.RowKit Go.Deep Go.Proofs.YtdaoaedkjoknmaaGreat.Num

abbrev chV (c : Ch) : Value := .agg #[.int .i64 c.off, .string c.data]
def chL (c : Ch) : List Value := [.int .i64 c.off, .string c.data]
theorem chL_len (c : Ch) : (chL c).length = 2 := rfl
abbrev chC (c : Ch) : Array Value := #[.int .i64 c.off, .string c.data]
abbrev ch0 : Ch := ⟨0, ⟨#[]⟩⟩
theorem grownc_below {w w' : World} (h : Below w.heap.size w w') : w.grownBy w' none := ⟨h.os, h.tape, h.output, h.size, fun i hi _ => h.block i hi⟩
theorem ownc_later {w w' : World} {base e sz n : Nat} {v : Value} {vs : List Value} (h : w.ownsRow base e sz v n vs) (hb : Below w.heap.size w w') : w'.ownsRow base e sz v n vs :=
  World.ownsRow.kept h (grownc_below hb) (by
    cases v.ownBlock with
    | none => exact .inl rfl
    | some k => exact .inr (by simp))
def Chs (w : World) (B : Nat) (A : Option Addr) (l : List Ch) : Prop := ∀ j (hj : j < l.length), ∃ b off, A = some ⟨b, off, none⟩ ∧ b < B ∧ ∀ i, i < 2 → w.cell? ⟨b, off + j * 2 + i, none⟩ = (chL l[j])[i]?
theorem Chs.keep {w w' : World} {B : Nat} {A : Option Addr} {l : List Ch} (h : Chs w B A l) (hb : ∀ k, k < B → w'.heap[k]? = w.heap[k]?) : Chs w' B A l := by
  intro j hj
  obtain ⟨b, off, hA, hlt, h1⟩ := h j hj
  exact ⟨b, off, hA, hlt, fun i hi => (World.cell?_of_block (w := w) (hb b hlt)).trans (h1 i hi)⟩
theorem Chs.below {w w' : World} {B K : Nat} {A : Option Addr} {l : List Ch} (h : Chs w B A l) (hK : B ≤ K) (hb : Below K w w') : Chs w' B A l := h.keep fun k hk => hb.block k (by omega)
theorem Chs.up {w : World} {B B' : Nat} {A : Option Addr} {l : List Ch} (h : Chs w B A l) (hB : B ≤ B') : Chs w B' A l := by
  intro j hj
  obtain ⟨b, off, hA, hlt, hc⟩ := h j hj
  exact ⟨b, off, hA, by omega, hc⟩
theorem Chs.nil {w : World} {B : Nat} {A : Option Addr} : Chs w B A [] := fun j hj => absurd hj (by simp)
theorem Chs.cells {w : World} {B : Nat} {A : Option Addr} {l : List Ch} (h : Chs w B A l) (j : Nat) (hj : j < l.length) : ∃ b off, A = some ⟨b, off, none⟩ ∧ b < B ∧
    w.cell? ⟨b, off + j * 2, none⟩ = some (.int .i64 l[j].off) ∧ w.cell? ⟨b, off + j * 2 + 1, none⟩ = some (.string l[j].data) := by
  obtain ⟨b, off, hA, hlt, h1⟩ := h j hj
  exact ⟨b, off, hA, hlt, h1 0 (by omega), h1 1 (by omega)⟩

def valsC : List Ch → List Value
  | [] => []
  | x :: l => chL x ++ valsC l
theorem valsC_len (l : List Ch) : (valsC l).length = l.length * 2 := by
  induction l with
  | nil => rfl
  | cons x l ih => simp [valsC, ih, chL_len]; omega
theorem valsC_append (a b : List Ch) : valsC (a ++ b) = valsC a ++ valsC b := by
  induction a with
  | nil => rfl
  | cons x a ih => simp [valsC, ih]
theorem valsC_at (l : List Ch) : ∀ j (h : j < l.length) i, i < 2 → (valsC l)[j * 2 + i]? = (chL l[j])[i]? := by
  induction l with
  | nil => intro j h; cases h
  | cons x l ih =>
    intro j h i hi
    cases j with
    | zero =>
      rw [Nat.zero_mul, Nat.zero_add]
      show (chL x ++ valsC l)[i]? = _
      rw [List.getElem?_append_left (by rw [chL_len]; exact hi)]
      rfl
    | succ j =>
      show (chL x ++ valsC l)[(j + 1) * 2 + i]? = _
      rw [List.getElem?_append_right (by rw [chL_len]; omega), chL_len, show (j + 1) * 2 + i - 2 = j * 2 + i by omega, ih j (by simpa using h) i hi]
      rfl
def OwnC (w : World) (base : Nat) (v : Value) (l : List Ch) : Prop := w.ownsRow base 140 2 v l.length (valsC l)
theorem OwnC.later {w w' : World} {base : Nat} {v : Value} {l : List Ch} (h : OwnC w base v l) (hb : Below w.heap.size w w') : OwnC w' base v l := ownc_later h hb
theorem OwnC.alloc {w : World} {base : Nat} {v : Value} {l : List Ch} (h : OwnC w base v l) (o : Obj) : OwnC (w.alloc o) base v l := World.ownsRow.alloc h o
theorem OwnC.empty {w : World} {base : Nat} : OwnC w base (.slice none 0 0) [] := World.ownsRow_nil w base _ 2
theorem OwnC.lit (w : World) (base cap : Nat) (cur : Array Value) (hb : base ≤ w.heap.size) (hc : cap ≤ maxLen) (hs : cur.size = cap * 2) :
    OwnC (w.alloc (.cells cur 140)) base (.slice (some ⟨w.heap.size, 0, none⟩) 0 cap) [] :=
  World.ownsRow_made w cur cap hb hc (by omega)
theorem OwnC.frs {w : World} {base : Nat} {v : Value} {l : List Ch} (h : OwnC w base v l) : ∃ A cap, v = .slice A l.length cap ∧ l.length ≤ cap ∧ Chs w w.heap.size A l := by
  have h0 := h
  obtain ⟨_, h⟩ := h
  rcases h with ⟨rfl, hn⟩ | ⟨g, cap, cur, rfl, _, hg, hle, _, _, _⟩
  · obtain rfl : l = [] := List.eq_nil_of_length_eq_zero hn
    exact ⟨none, 0, rfl, by simp, Chs.nil⟩
  · refine ⟨_, cap, rfl, hle, fun j hj => ⟨g, 0, rfl, (Array.getElem?_eq_some_iff.1 hg).1, fun i hi => ?_⟩⟩
    rw [Nat.zero_add, World.ownsRow.cellAt h0 (j * 2 + i) (by omega)]
    exact valsC_at l j hj i hi
theorem OwnC.only {w w' : World} {base g : Nat} {v : Value} {l : List Ch} (h : OwnC w base v l) (hg : w.grownBy w' (some g)) (hb : g < base) : OwnC w' base v l :=
  World.ownsRow.kept h hg (by
    cases hv : v.ownBlock with
    | none => exact .inl rfl
    | some k =>
      refine .inr (fun e => ?_)
      have := (World.ownsRow.lt h k hv).1
      have := Option.some.inj e
      omega)

theorem infoC : (Tryz.prog.info? 140).map (fun i => (i.zero, i.size, i.bytes)) = some (some (chV ch0), 2, 24) := by kernel_rfl
theorem Chs.flat {w : World} {B g off : Nat} {l : List Ch} (h : Chs w B (some ⟨g, off, none⟩) l) : ∀ j u, (valsC l)[j]? = some u → w.cell? ((⟨g, off, none⟩ : Addr).add j) = some u := by
  intro j u hu
  have hj : j < l.length * 2 := by
    have := (List.getElem?_eq_some_iff.1 hu).1
    rwa [valsC_len] at this
  have e : (⟨g, off, none⟩ : Addr).add j = ⟨g, off + j, none⟩ := by
    unfold Addr.add
    split <;> simp_all
  rw [e]
  have hi : j / 2 < l.length := by omega
  obtain ⟨b, o, hA, _, h1⟩ := h (j / 2) hi
  have hA' := Option.some.inj hA
  injection hA' with e1 e2 _
  subst e1
  subst e2
  have hv := valsC_at l (j / 2) hi (j % 2) (by omega)
  have h2x := h1 (j % 2) (by omega)
  rw [show off + j / 2 * 2 + j % 2 = off + j by omega] at h2x
  rw [show j / 2 * 2 + j % 2 = j by omega] at hv
  rw [h2x, ← hv]
  exact hu
theorem valsC_one (l : List Ch) : ∀ u ∈ valsC l, u.oneCell' = true := by
  induction l with
  | nil => intro u hu; cases hu
  | cons x l ih =>
    intro u hu
    rcases List.mem_append.1 hu with hu | hu
    · simp [chL] at hu
      rcases hu with rfl | rfl <;> rfl
    · exact ih u hu

theorem wpList_append_ch {ops : Array Oper} {rest : List Oper} {o : Oper} {a : Act} {Q : Exit → Act → World → Prop} (W : World) (hgd : o.guard = none) (s x : Operand)
    (ho : o.op = .call { callee := .builtin .append, args := #[s, x], argTypes := #[36, 36] })
    (base : Nat) (v : Value) (l : List Ch) (hs : a.eval s = v) (hown : OwnC W base v l)
    (g off m c B : Nat) (r : List Ch) (hx : a.eval x = .slice (some ⟨g, off, none⟩) m c) (hm : r.length = m) (hr : Chs W B (some ⟨g, off, none⟩) r)
    (hlen : l.length + m ≤ 100000000000) (hbase : base ≤ W.heap.size)
    (h : ∀ v' w', OwnC w' base v' (l ++ r) → Below base W w' → wpList Tryz.prog ops Q rest (a.put o.dst v') w') : wpList Tryz.prog ops Q (o :: rest) a W := by
  obtain ⟨i0, hi, hz0, hz1, hz2⟩ := info_parts infoC
  refine wpList_append_own W hgd s x 36 ho base 140 i0 (chV ch0) 2 24 Tryz.underlying36 hi hz0 hz1 hz2 rfl (by decide) v l.length (valsC l) hs hown ⟨g, off, none⟩ m c (valsC r) hx (by rw [valsC_len, hm]) hr.flat (valsC_one r) (by unfold maxLen; omega) (by omega) hbase ?_
  intro v' w' h1 h2 _
  refine h v' w' ?_ ((Below.refl _ _).grown h2 hbase (fun k hk => (World.ownsRow.lt hown k hk).1))
  unfold OwnC
  rw [valsC_append, List.length_append, hm]
  exact h1
theorem chs_one (w : World) (f : Ch) (t : TypeId) : Chs (w.alloc (.cells (chC f) t)) (w.heap.size + 1) (some ⟨w.heap.size, 0, none⟩) [f] := by
  intro j hj
  obtain rfl : j = 0 := by simpa using hj
  refine ⟨w.heap.size, 0, rfl, by omega, fun i hi => ?_⟩
  rw [World.cell?_alloc_at _ _ _ _ rfl, Nat.zero_mul, Nat.zero_add]
  rcases (show i = 0 ∨ i = 1 by omega) with rfl | rfl <;> rfl
end Go.Proofs.YtdaoaedkjoknmaaGreat

namespace Go.Proofs.YtdaoaedkjoknmaaGreat
open Go.RowKit Go.Deep Go.Proofs.YtdaoaedkjoknmaaGreat.Num

def RowC (w : World) (base g n cap : Nat) (l : List Ch) : Prop := l.length = n ∧ w.ownsRow base 140 2 (.slice (some ⟨g, 0, none⟩) n cap) n (valsC l)
theorem RowC.own {w : World} {base g n cap : Nat} {l : List Ch} (h : RowC w base g n cap l) : OwnC w base (.slice (some ⟨g, 0, none⟩) n cap) l := by
  obtain ⟨rfl, h⟩ := h
  exact h
theorem OwnC.row {w : World} {base g cap : Nat} {l : List Ch} (h : OwnC w base (.slice (some ⟨g, 0, none⟩) l.length cap) l) : RowC w base g l.length cap l := ⟨rfl, h⟩
theorem RowC.ge {w : World} {base g n cap : Nat} {l : List Ch} (h : RowC w base g n cap l) : base ≤ g ∧ g < w.heap.size := World.ownsRow.lt h.2 g rfl
theorem RowC.at {w : World} {base g n cap : Nat} {l : List Ch} (h : RowC w base g n cap l) (j : Nat) (hj : j < l.length) (i : Nat) (hi : i < 2) : w.cell? ⟨g, j * 2 + i, none⟩ = (chL l[j])[i]? := by
  have hn := h.1
  exact (World.ownsRow.cellAt h.2 (j * 2 + i) (by omega)).trans (valsC_at l j hj i hi)
theorem RowC.cells {w : World} {base g n cap : Nat} {l : List Ch} (h : RowC w base g n cap l) (j : Nat) (hj : j < l.length) : w.cell? ⟨g, j * 2, none⟩ = some (.int .i64 l[j].off) ∧ w.cell? ⟨g, j * 2 + 1, none⟩ = some (.string l[j].data) :=
  ⟨h.at j hj 0 (by omega), h.at j hj 1 (by omega)⟩
theorem RowC.free {w : World} {base g n cap : Nat} {l : List Ch} (h : RowC w base g n cap l) (k : Nat) : w.frozen? ⟨g, k, none⟩ = false := World.ownsRow.frozenAt h.2 k
theorem RowC.later {w w' : World} {base g n cap : Nat} {l : List Ch} (h : RowC w base g n cap l) (hb : Below w.heap.size w w') : RowC w' base g n cap l := ⟨h.1, ownc_later h.2 hb⟩
theorem RowC.alloc {w : World} {base g n cap : Nat} {l : List Ch} (h : RowC w base g n cap l) (o : Obj) : RowC (w.alloc o) base g n cap l := ⟨h.1, World.ownsRow.alloc h.2 o⟩
theorem valsC_set0 (l : List Ch) : ∀ j (h : j < l.length) (a : Int), (valsC l).set (j * 2) (.int .i64 a) = valsC (l.set j ⟨a, l[j].data⟩) := by
  induction l with
  | nil => intro j h; cases h
  | cons x l ih =>
    intro j h a
    cases j with
    | zero => rfl
    | succ j =>
      have := ih j (by simpa using h) a
      rw [show (j + 1) * 2 = j * 2 + 1 + 1 from by omega]
      show Value.int .i64 x.off :: Value.string x.data :: (valsC l).set (j * 2) (.int .i64 a) = _
      rw [this]
      rfl
theorem valsC_set1 (l : List Ch) : ∀ j (h : j < l.length) (b : ByteArray), (valsC l).set (j * 2 + 1) (.string b) = valsC (l.set j ⟨l[j].off, b⟩) := by
  induction l with
  | nil => intro j h; cases h
  | cons x l ih =>
    intro j h a
    cases j with
    | zero => rfl
    | succ j =>
      have := ih j (by simpa using h) a
      rw [show (j + 1) * 2 + 1 = j * 2 + 1 + 1 + 1 from by omega]
      show Value.int .i64 x.off :: Value.string x.data :: (valsC l).set (j * 2 + 1) (.string a) = _
      rw [this]
      rfl
theorem RowC.store0 {w : World} {base g n cap : Nat} {l : List Ch} (h : RowC w base g n cap l) (j : Nat) (hj : j < l.length) (a : Int) : RowC (w.setCell ⟨g, j * 2, none⟩ (.int .i64 a)) base g n cap (l.set j ⟨a, l[j].data⟩) := by
  refine ⟨by simpa using h.1, ?_⟩
  rw [← valsC_set0 l j hj a]
  exact (World.ownsRow.stored h.2 (j * 2) (.int .i64 a)).1
theorem RowC.store1 {w : World} {base g n cap : Nat} {l : List Ch} (h : RowC w base g n cap l) (j : Nat) (hj : j < l.length) (b : ByteArray) : RowC (w.setCell ⟨g, j * 2 + 1, none⟩ (.string b)) base g n cap (l.set j ⟨l[j].off, b⟩) := by
  refine ⟨by simpa using h.1, ?_⟩
  rw [← valsC_set1 l j hj b]
  exact (World.ownsRow.stored h.2 (j * 2 + 1) (.string b)).1
theorem RowC.store {w : World} {base g n cap : Nat} {l : List Ch} (h : RowC w base g n cap l) (j : Nat) (hj : j < l.length) (x : Ch) : RowC ((w.setCell ⟨g, j * 2, none⟩ (.int .i64 x.off)).setCell ⟨g, j * 2 + 1, none⟩ (.string x.data)) base g n cap (l.set j x) := by
  have h1 := (h.store0 j hj x.off).store1 j (by simpa using hj) x.data
  simpa using h1
end Go.Proofs.YtdaoaedkjoknmaaGreat

namespace Go.Proofs.YtdaoaedkjoknmaaGreat
open Go.RowKit Go.Deep Go.Proofs.YtdaoaedkjoknmaaGreat.Num

abbrev bfV (n : Int) (v : Value) : Value := .agg #[.int .i64 n, v]
def BoxB (w : World) (g : Nat) (n : Int) (v : Value) : Prop := w.heap[g]? = some (.cells #[.int .i64 n, v] 38 (0, 0))
theorem BoxB.cells {w : World} {g : Nat} {n : Int} {v : Value} (c : BoxB w g n v) : w.cell? ⟨g, 0, none⟩ = some (.int .i64 n) ∧ w.cell? ⟨g, 1, none⟩ = some v := ⟨cell_of_row w g 0 _ _ _ c, cell_of_row w g 1 _ _ _ c⟩
theorem BoxB.free {w : World} {g : Nat} {n : Int} {v : Value} (c : BoxB w g n v) (k : Nat) : w.frozen? ⟨g, k, none⟩ = false := by
  unfold BoxB at c
  simp [World.frozen?, c]
theorem BoxB.new (w : World) (n : Int) (v : Value) : BoxB (w.alloc (.cells #[.int .i64 n, v] 38)) w.heap.size n v := heap_alloc_new w _
theorem BoxB.lt {w : World} {g : Nat} {n : Int} {v : Value} (c : BoxB w g n v) : g < w.heap.size := by
  unfold BoxB at c
  exact (Array.getElem?_eq_some_iff.1 c).1
theorem BoxB.below {w w' : World} {g K : Nat} {n : Int} {v : Value} (c : BoxB w g n v) (h : Below K w w') (hg : g < K) : BoxB w' g n v := (h.block g hg).trans c
theorem BoxB.alloc {w : World} {g : Nat} {n : Int} {v : Value} (c : BoxB w g n v) (o : Obj) : BoxB (w.alloc o) g n v := (heap_alloc_old w o (BoxB.lt c)).trans c
theorem BoxB.set0 {w : World} {g : Nat} {n : Int} {v : Value} (c : BoxB w g n v) (x : Int) : BoxB (w.setCell ⟨g, 0, none⟩ (.int .i64 x)) g x v := by
  unfold BoxB at c ⊢
  simp [World.setCell, Array.getElem?_modify, c]
theorem BoxB.set1 {w : World} {g : Nat} {n : Int} {v : Value} (c : BoxB w g n v) (u : Value) : BoxB (w.setCell ⟨g, 1, none⟩ u) g n u := by
  unfold BoxB at c ⊢
  simp [World.setCell, Array.getElem?_modify, c]
def HeldB (w : World) (n : Int) (v : Value) (W : World) : Prop := BoxB W w.heap.size n v ∧ Below w.heap.size w W
theorem HeldB.start (w : World) (n : Int) (v : Value) : HeldB w n v (w.alloc (.cells #[.int .i64 n, v] 38)) := ⟨BoxB.new w n v, (Below.refl _ _).alloc (Nat.le_refl _) _⟩
theorem HeldB.next {w W W1 : World} {n : Int} {v : Value} (h : HeldB w n v W) (hb : Below W.heap.size W W1) : HeldB w n v W1 := ⟨h.1.below hb h.1.lt, h.2.trans (hb.mono h.2.size)⟩
theorem HeldB.alloc {w W : World} {n : Int} {v : Value} (h : HeldB w n v W) (o : Obj) : HeldB w n v (W.alloc o) := ⟨h.1.alloc _, h.2.alloc h.2.size _⟩
theorem HeldB.drew {w W : World} {n : Int} {v : Value} (h : HeldB w n v W) : HeldB w n v W.drew := ⟨h.1, h.2.drew⟩
def inB (l : List Ch) : Prop := ∀ c ∈ l, c.data.size ≤ maxLen ∧ -9223372036854775808 ≤ c.off ∧ c.off ≤ 9223372036854775807
end Go.Proofs.YtdaoaedkjoknmaaGreat

namespace Go.Proofs.YtdaoaedkjoknmaaGreat
open Go.RowKit Go.Deep Go.Proofs.YtdaoaedkjoknmaaGreat.Num

def szCs : Int → List Ch → Int
  | n, [] => n
  | n, f :: l => if n < f.data.size then -1 else szCs (n - f.data.size) l
end Go.Proofs.YtdaoaedkjoknmaaGreat

namespace Go.Proofs.YtdaoaedkjoknmaaGreat.Num

structure Rc where
  st : Int
  buf : Bf
  fin : Int
  hi : Int
  code : Int
def fullRc (r : Rc) : Prop := r.fin ≠ -1 ∧ r.buf.next + (rdyB r.buf : Int) = r.fin
instance (r : Rc) : Decidable (fullRc r) := by unfold fullRc; infer_instance
def headRc (r : Rc) : Prop := okB r.buf ∧ (0 ≤ r.hi ∧ r.hi ≤ 4611686018427387903) ∧ endB r.buf ≤ r.hi ∧ (0 ≤ r.code ∧ r.code ≤ 4611686018427387903) ∧ ¬ (r.fin ≠ -1 ∧ r.fin < r.hi) ∧ r.fin ≤ 4611686018427387903 ∧ -1 ≤ r.fin
instance (r : Rc) : Decidable (headRc r) := by unfold headRc; infer_instance
def stRc (r : Rc) : Prop := (r.st = 0 ∧ r.fin = -1 ∧ r.code = 0) ∨ (r.st = 1 ∧ r.fin ≠ -1 ∧ ¬ fullRc r ∧ r.code = 0) ∨ (r.st = 2 ∧ fullRc r ∧ r.code = 0) ∨ (r.st = 3 ∧ fullRc r ∧ r.buf.chs = [] ∧ r.code = 0) ∨ ((r.st = 4 ∨ r.st = 5) ∧ r.fin ≠ -1 ∧ r.hi = r.fin ∧ r.buf.chs = [])
instance (r : Rc) : Decidable (stRc r) := by unfold stRc; infer_instance
def okRc (r : Rc) : Prop := headRc r ∧ stRc r
instance (r : Rc) : Decidable (okRc r) := by unfold okRc; infer_instance
def newRc (r : Rc) (e : Int) : Int := if okRc r ∧ 0 ≤ e ∧ e ≤ 4611686018427387903 then max 0 (e - r.hi) else 0
def badRc (r : Rc) (e : Int) (f : Bool) : Prop := (r.fin ≠ -1 ∧ (r.fin < e ∨ (f = true ∧ e ≠ r.fin))) ∨ (f = true ∧ e < r.hi)
instance (r : Rc) (e : Int) (f : Bool) : Decidable (badRc r e f) := by unfold badRc; infer_instance
def fillRc (x : Rc) : Rc := if fullRc x then ⟨2, x.buf, x.fin, x.hi, x.code⟩ else x
theorem fillRc_buf (x : Rc) : (fillRc x).buf = x.buf := by
  unfold fillRc
  split <;> rfl
def datRc (r : Rc) (o : Int) (d : ByteArray) (f : Bool) : Rc := fillRc ⟨if f = true then 1 else r.st, insB r.buf o d, if f = true then o + d.size else r.fin, max r.hi (o + d.size), r.code⟩
def rcvRc (r : Rc) (o : Int) (d : ByteArray) (f : Bool) : Rc × Int :=
  if ¬ (okRc r ∧ 0 ≤ o ∧ o ≤ 4611686018427387903 - d.size) then (r, 7)
  else if badRc r (o + d.size) f then (r, 6)
  else if 1 < r.st then (r, 0)
  else (datRc r o d f, 0)
def rstRc (r : Rc) (c fn : Int) : Rc × Int :=
  if ¬ (okRc r ∧ (0 ≤ c ∧ c ≤ 4611686018427387903) ∧ 0 ≤ fn ∧ fn ≤ 4611686018427387903) then (r, 7)
  else if badRc r fn true then (r, 6)
  else if 1 < r.st then (r, 0)
  else (⟨4, ⟨r.buf.next, []⟩, fn, fn, c⟩, 0)
def readRc (r : Rc) (m : Int) : ByteArray × Rc :=
  if ¬ okRc r then (⟨#[]⟩, r)
  else if r.st = 4 then (⟨#[]⟩, ⟨5, r.buf, r.fin, r.hi, r.code⟩)
  else (headT r.buf (cntT r.buf m), ⟨if r.st = 2 ∧ (dropT r.buf (cntT r.buf m)).next = r.fin then 3 else r.st, dropT r.buf (cntT r.buf m), r.fin, r.hi, r.code⟩)
def gotRc (r : Rc) : Prop := okRc r ∧ (r.st = 3 ∨ r.st = 5)
instance (r : Rc) : Decidable (gotRc r) := by unfold gotRc; infer_instance
def sameRc (r s : Rc) : Prop := r.st = s.st ∧ (r.buf.next = s.buf.next ∧ r.buf.chs = s.buf.chs) ∧ r.fin = s.fin ∧ r.hi = s.hi ∧ r.code = s.code
instance (r s : Rc) : Decidable (sameRc r s) := by unfold sameRc; infer_instance
def nuRc : Rc := ⟨0, ⟨0, []⟩, -1, 0, 0⟩
def inRc (r : Rc) : Prop := (-9223372036854775808 ≤ r.st ∧ r.st ≤ 9223372036854775807) ∧ (-9223372036854775808 ≤ r.buf.next ∧ r.buf.next ≤ 9223372036854775807) ∧ (-9223372036854775808 ≤ r.fin ∧ r.fin ≤ 9223372036854775807) ∧ (-9223372036854775808 ≤ r.hi ∧ r.hi ≤ 9223372036854775807) ∧ (-9223372036854775808 ≤ r.code ∧ r.code ≤ 9223372036854775807)
theorem rdyB_le {b : Bf} (h : okB b) : b.next + (rdyB b : Int) ≤ endB b := by
  by_cases h0 : rdyB b = 0
  · rw [h0]; have := endB_ge h; omega
  · obtain ⟨_, c, l, hl, hn, hs⟩ := rdyB_pos h0
    have := endB_max h c (by rw [hl]; exact List.mem_cons_self ..)
    omega
end Go.Proofs.YtdaoaedkjoknmaaGreat.Num

namespace Go.Proofs.YtdaoaedkjoknmaaGreat
open Go.RowKit Go.Deep Go.Proofs.YtdaoaedkjoknmaaGreat.Num

theorem in_yes (x lo hi : Int) (w : World) (h1 : lo ≤ x) (h2 : x ≤ hi) :
    Calls Tryz.prog 69 #[.int .i64 x, .int .i64 lo, .int .i64 hi] w fun e w' => e = .returned (.bool true) ∧ w = w' := by
  go_enter Tryz.func69, Tryz.ntmps69
  go_wp2
  go_ret
  exact ⟨rfl, rfl⟩
theorem in_no (x lo hi : Int) (w : World) (h : x < lo ∨ hi < x) :
    Calls Tryz.prog 69 #[.int .i64 x, .int .i64 lo, .int .i64 hi] w fun e w' => e = .returned (.bool false) ∧ w = w' := by
  rcases h with h | h
  · have h' : ¬ lo ≤ x := by omega
    go_enter Tryz.func69, Tryz.ntmps69
    go_wp2
    go_ret
    exact ⟨rfl, rfl⟩
  · have h' : ¬ x ≤ hi := by omega
    by_cases h2 : lo ≤ x
    all_goals
      go_enter Tryz.func69, Tryz.ntmps69
      go_wp2
      go_ret
      exact ⟨rfl, rfl⟩
theorem data_empty (d : ByteArray) : d.toList.isEmpty = decide (d.size = 0) := by
  rw [ByteArray.toList_eq]
  cases h : d.data.toList with
  | nil =>
    have : d.size = 0 := by have := congrArg List.length h; simpa using this
    simp [this]
  | cons x y =>
    have : d.size ≠ 0 := by have := congrArg List.length h; simp at this; omega
    simp [this]
end Go.Proofs.YtdaoaedkjoknmaaGreat

namespace Go.Proofs.YtdaoaedkjoknmaaGreat
open Go.RowKit Go.Deep Go.Proofs.YtdaoaedkjoknmaaGreat.Num

end Go.Proofs.YtdaoaedkjoknmaaGreat

namespace Go.Proofs.YtdaoaedkjoknmaaGreat
open Go.RowKit Go.Deep Go.Proofs.YtdaoaedkjoknmaaGreat.Num

namespace Num
theorem endB_bad {b : Bf} (h : ¬ okB b) : endB b = b.next := by unfold endB; rw [if_neg h]
theorem endB_nil {b : Bf} (h : b.chs = []) : endB b = b.next := by
  unfold endB
  split
  · rw [h]; rfl
  · rfl
theorem endB_last {b : Bf} (h : okB b) (h0 : 0 < b.chs.length) : endB b = b.chs[b.chs.length - 1].off + b.chs[b.chs.length - 1].data.size := by
  unfold endB
  rw [if_pos h, List.getLast?_eq_getElem?, List.getElem?_eq_getElem (by omega)]
end Num
def HeldB2 (w : World) (n : Int) (v : Value) (m : Int) (u : Value) (W : World) : Prop := BoxB W w.heap.size n v ∧ BoxB W (w.heap.size + 1) m u ∧ Below w.heap.size w W
end Go.Proofs.YtdaoaedkjoknmaaGreat

namespace Go.Proofs.YtdaoaedkjoknmaaGreat.Num

theorem docSn.norm {s : Sn} (h : docSn s) (hs : ¬ (s.st = 4 ∨ s.st = 5)) : fitS s ∧ wholeS s ∧ endS s := by
  obtain ⟨h1, h2⟩ := h
  rw [if_neg hs] at h2
  exact ⟨h1, (listS_whole h1).1 h2.1, h2.2⟩
theorem docSn.mk' {s : Sn} (hs : ¬ (s.st = 4 ∨ s.st = 5)) (h1 : fitS s) (h2 : wholeS s) (h3 : endS s) : docSn s := by
  refine ⟨h1, ?_⟩
  rw [if_neg hs]
  exact ⟨(listS_whole h1).2 h2, h3⟩
theorem docSn.low {s : Sn} (h : docSn s) (hs : s.st ≤ 3) : fitS s ∧ wholeS s ∧ endS s := h.norm (by omega)
theorem fixS_st (s : Sn) : ¬ ((fixS s).st = 4 ∨ (fixS s).st = 5) := by
  have h := folS_in s
  show ¬ (folS s = 4 ∨ folS s = 5)
  omega
theorem wrS_doc {s : Sn} (d : ByteArray) (h : docSn s) : docSn (wrS true s d) := by
  unfold wrS
  split
  · rename_i hc
    obtain ⟨_, h1, h2⟩ := hc
    obtain ⟨f, u, e⟩ := h.low (by omega)
    obtain ⟨f1, f2, f3, f4, f5, f6, f7⟩ := f
    obtain ⟨e1, e2, e3, e4, e5, e6, e7⟩ := e
    have hen : (wrR s.rn d).en = s.rn.en + cntW s.rn d := rfl
    have hw := wrR_ok d f1
    have hmx : s.rn.en + cntW s.rn d ≤ 4611686018427387903 := hw.2.2.2.2.2.1
    have hpe : okR (-1) (if 0 < cntW s.rn d then addL s.pe (s.rn.en, s.rn.en + cntW s.rn d) else s.pe) ∧ ∀ n, hasR (if 0 < cntW s.rn d then addL s.pe (s.rn.en, s.rn.en + cntW s.rn d) else s.pe) n ↔ hasR s.pe n ∨ (s.rn.en ≤ n ∧ n < s.rn.en + cntW s.rn d) := by
      split
      · exact addL_ok f2 ⟨by show 0 ≤ s.rn.en; omega, by show s.rn.en < s.rn.en + (cntW s.rn d : Int); omega, hmx⟩
      · exact ⟨f2, fun n => ⟨.inl, fun h => h.resolve_right (by omega)⟩⟩
    generalize (if 0 < cntW s.rn d then addL s.pe (s.rn.en, s.rn.en + cntW s.rn d) else s.pe) = q at *
    have hfi : s.fi = 0 := e5.2 h2
    have hst : s.st = if 0 < s.sent then 1 else 0 := by
      have h9 := e7
      unfold folS at h9
      rw [if_neg (by omega), if_neg (by omega)] at h9
      by_cases h0 : 0 < s.sent
      · rw [if_pos (Or.inl h0)] at h9; rw [if_pos h0]; exact h9
      · rw [if_neg (by omega)] at h9; rw [if_neg h0]; exact h9
    refine docSn.mk' (by show ¬ (s.st = 4 ∨ s.st = 5); omega) ⟨hw, hpe.1, f3, f4, ⟨f5.1, by show s.sent ≤ s.rn.en + (cntW s.rn d : Int); omega⟩, f6, f7⟩ ?_ ⟨e1, e2, e3, e4, e5, fun h => absurd h2 h, ?_⟩
    · obtain ⟨u1, u2, u3, u4⟩ := u
      refine ⟨fun n => ?_, fun n hn => ?_, fun n hn => ?_, u4⟩
      · show hasR q n ∨ hasR s.fl n ∨ hasR s.ac n ↔ 0 ≤ n ∧ n < s.rn.en + (cntW s.rn d : Int)
        rw [hpe.2]
        have := u1 n
        constructor
        · rintro ((a | a) | a)
          · have := this.1 (.inl a); omega
          · omega
          · have := this.1 (.inr a); omega
        · intro a
          by_cases b : n < s.rn.en
          · rcases this.2 ⟨a.1, b⟩ with c | c
            · exact .inl (.inl c)
            · exact .inr c
          · exact .inl (.inr (by omega))
      · rcases (hpe.2 n).1 hn.1 with a | a
        · exact u2 n ⟨a, hn.2⟩
        · have := (u1 n).1 (.inr (.inl hn.2)); omega
      · rcases (hpe.2 n).1 hn.1 with a | a
        · exact u3 n ⟨a, hn.2⟩
        · have := (u1 n).1 (.inr (.inr hn.2)); omega
    · show s.st = folS { s with rn := wrR s.rn d, pe := q }
      unfold folS
      dsimp only
      rw [if_neg (by omega), if_neg (by omega), hst]
      by_cases h0 : 0 < s.sent
      · rw [if_pos h0, if_pos (Or.inl h0)]
      · rw [if_neg h0, if_neg (by rw [if_neg h0] at hst; omega)]
  · exact h
theorem clS_doc {s : Sn} (h : docSn s) : docSn (clS true s) := by
  unfold clS
  split
  · rename_i hc
    obtain ⟨_, h1, h2⟩ := hc
    obtain ⟨f, u, e⟩ := h.low (by omega)
    obtain ⟨f1, f2, f3, f4, f5, f6, f7⟩ := f
    obtain ⟨e1, e2, e3, e4, e5, e6, e7⟩ := e
    have hfi : s.fi = 0 := e5.2 h2
    have h9 := e7
    unfold folS at h9
    rw [if_neg (by omega), if_neg (by omega)] at h9
    refine docSn.mk' (by show ¬ (s.st = 4 ∨ s.st = 5); omega) ⟨f1, f2, f3, f4, f5, f6, by show (0 : Int) ≤ 1; decide, by show (1 : Int) ≤ 3; decide⟩ u ⟨e1, e2, e3, e4, ⟨fun h => (by cases h), fun h => by have h8 : s.rn.en = -1 := h; omega⟩, fun _ => rfl, ?_⟩
    show s.st = folS { s with fin := s.rn.en, fi := 1 }
    unfold folS
    dsimp only
    rw [if_neg (by omega), if_neg (by omega)]
    by_cases h0 : 0 < s.sent
    · rw [if_pos (Or.inl h0)] at h9; rw [if_pos (Or.inl h0)]; exact h9
    · rw [if_neg (by omega)] at h9; rw [if_neg (by omega)]; exact h9
  · exact h
theorem sdS_doc {s : Sn} (p : Pc) (h : docSn s) : docSn (sdS true s p) := by
  unfold sdS
  split
  · rename_i hc
    obtain ⟨⟨_, h1, ⟨p0, p1, p2, p3⟩, _, hfin⟩, hcom⟩ := hc
    obtain ⟨f, u, e⟩ := h.low (by omega)
    obtain ⟨f1, f2, f3, f4, f5, f6, f7⟩ := f
    obtain ⟨e1, e2, e3, e4, e5, e6, e7⟩ := e
    have hmx := f1.2.2.2.2.2.1
    have hr1 : (pcR p).1 = p.off := rfl
    have hr2 : (pcR p).2 = p.off + p.data.size := rfl
    have hsub : ∀ n, p.off ≤ n → n < p.off + p.data.size → hasR s.pe n := fun n a b => by
      have h9 := hcom (by omega)
      exact ((comR_has s.pe [pcR p] n).1 (by rw [h9]; exact (hasR_cons ..).2 (.inl ⟨a, b⟩))).1
    have hff : p.data.size ≠ 0 → fineR (pcR p) := fun h9 => ⟨p0, by rw [hr1, hr2]; omega, by rw [hr2]; omega⟩
    have hpe : okR (-1) (if p.data.size ≠ 0 then remL s.pe (pcR p) else s.pe) ∧ ∀ n, hasR (if p.data.size ≠ 0 then remL s.pe (pcR p) else s.pe) n ↔ hasR s.pe n ∧ ¬ (p.off ≤ n ∧ n < p.off + p.data.size) := by
      split
      · rename_i h9; exact remL_ok f2 (hff h9)
      · exact ⟨f2, fun n => ⟨fun a => ⟨a, by omega⟩, fun a => a.1⟩⟩
    have hfl : okR (-1) (if p.data.size ≠ 0 then addL s.fl (pcR p) else s.fl) ∧ ∀ n, hasR (if p.data.size ≠ 0 then addL s.fl (pcR p) else s.fl) n ↔ hasR s.fl n ∨ (p.off ≤ n ∧ n < p.off + p.data.size) := by
      split
      · rename_i h9; exact addL_ok f3 (hff h9)
      · exact ⟨f3, fun n => ⟨.inl, fun a => a.resolve_right (by omega)⟩⟩
    have hse : s.sent ≤ (if p.data.size ≠ 0 then max s.sent (pcR p).2 else s.sent) ∧ (if p.data.size ≠ 0 then max s.sent (pcR p).2 else s.sent) ≤ s.rn.en ∧ (p.data.size ≠ 0 → p.off + p.data.size ≤ (if p.data.size ≠ 0 then max s.sent (pcR p).2 else s.sent)) := by
      rw [hr2]
      split
      · exact ⟨by omega, by omega, fun _ => by omega⟩
      · rename_i h9; exact ⟨Int.le_refl _, f5.2, fun h => absurd h h9⟩
    generalize (if p.data.size ≠ 0 then remL s.pe (pcR p) else s.pe) = q at *
    generalize (if p.data.size ≠ 0 then addL s.fl (pcR p) else s.fl) = g at *
    generalize (if p.data.size ≠ 0 then max s.sent (pcR p).2 else s.sent) = t at *
    have hfi : (0 ≤ (if p.fin = true then (2 : Int) else s.fi) ∧ (if p.fin = true then (2 : Int) else s.fi) ≤ 3) ∧ ((if p.fin = true then (2 : Int) else s.fi) = 0 ↔ s.fin = -1) := by
      split
      · rename_i h9
        exact ⟨by omega, ⟨fun h => (by cases h), fun h => absurd h (p3 h9).1⟩⟩
      · exact ⟨f7, e5⟩
    generalize (if p.fin = true then (2 : Int) else s.fi) = i at *
    obtain ⟨u1, u2, u3, u4⟩ := u
    refine docSn.mk' (fixS_st _) ⟨f1, hpe.1, hfl.1, f4, ⟨by show 0 ≤ t; omega, hse.2.1⟩, f6, hfi.1⟩ ⟨fun n => ?_, fun n hn => ?_, fun n hn => ?_, fun n hn => ?_⟩ ⟨e1, e2, ?_, ?_, hfi.2, e6, (folS_fix _).symm⟩
    · show hasR q n ∨ hasR g n ∨ hasR s.ac n ↔ 0 ≤ n ∧ n < s.rn.en
      rw [hpe.2, hfl.2, ← u1]
      by_cases a : p.off ≤ n ∧ n < p.off + p.data.size
      · exact ⟨fun _ => .inl (hsub n a.1 a.2), fun _ => .inr (.inl (.inr a))⟩
      · constructor
        · rintro (b | (b | b) | b)
          · exact .inl b.1
          · exact .inr (.inl b)
          · exact absurd b a
          · exact .inr (.inr b)
        · rintro (b | b | b)
          · exact .inl ⟨b, a⟩
          · exact .inr (.inl (.inl b))
          · exact .inr (.inr b)
    · obtain ⟨a, b⟩ := hn
      have a' := (hpe.2 n).1 a
      rcases (hfl.2 n).1 b with c | c
      · exact u2 n ⟨a'.1, c⟩
      · exact a'.2 c
    · exact u3 n ⟨((hpe.2 n).1 hn.1).1, hn.2⟩
    · rcases (hfl.2 n).1 hn.1 with c | c
      · exact u4 n ⟨c, hn.2⟩
      · exact u3 n ⟨hsub n c.1 c.2, hn.2⟩
    · refine (okR_high hfl.1).2 (fun n hn => ?_)
      show n < t
      rcases (hfl.2 n).1 hn with c | c
      · have := (okR_high f3).1 e3 n c; omega
      · have := hse.2.2 (by omega); omega
    · intro r hr
      have := e4 r hr
      show r.2 ≤ t
      omega
  · exact h
theorem loS_doc {s : Sn} (p : Pc) (h : docSn s) : docSn (loS true s p) := by
  unfold loS
  split
  · rename_i hc
    obtain ⟨_, h1, hp⟩ := hc
    obtain ⟨f, u, e⟩ := h.low (by omega)
    obtain ⟨f1, f2, f3, f4, f5, f6, f7⟩ := f
    obtain ⟨e1, e2, e3, e4, e5, e6, e7⟩ := e
    obtain ⟨k1, k2⟩ := comS_ok f3 hp f1.2.2.2.2.2.1
    obtain ⟨a1, a2⟩ := addLs_ok _ s.pe (-1) (Int.le_refl _) f2 k1
    obtain ⟨r1, r2⟩ := remLs_ok _ s.fl (-1) (Int.le_refl _) f3 k1
    generalize addLs s.pe (comS s p) = q at *
    generalize remLs s.fl (comS s p) = g at *
    have hfi : (0 ≤ (if p.fin = true ∧ s.fi = 2 then (1 : Int) else s.fi) ∧ (if p.fin = true ∧ s.fi = 2 then (1 : Int) else s.fi) ≤ 3) ∧ ((if p.fin = true ∧ s.fi = 2 then (1 : Int) else s.fi) = 0 ↔ s.fin = -1) := by
      split
      · rename_i h9
        exact ⟨by omega, ⟨fun h => (by cases h), fun h => absurd h (hp.2.2.2 h9.1).1⟩⟩
      · exact ⟨f7, e5⟩
    generalize (if p.fin = true ∧ s.fi = 2 then (1 : Int) else s.fi) = i at *
    obtain ⟨u1, u2, u3, u4⟩ := u
    refine docSn.mk' (fixS_st _) ⟨f1, a1, r1, f4, f5, f6, hfi.1⟩ ⟨fun n => ?_, fun n hn => ?_, fun n hn => ?_, fun n hn => ?_⟩ ⟨e1, e2, ?_, e4, hfi.2, e6, (folS_fix _).symm⟩
    · show hasR q n ∨ hasR g n ∨ hasR s.ac n ↔ 0 ≤ n ∧ n < s.rn.en
      rw [a2, r2, k2, ← u1]
      by_cases a : p.off ≤ n ∧ n < p.off + p.data.size
      · constructor
        · rintro ((b | b) | b | b)
          · exact .inl b
          · exact .inr (.inl b.1)
          · exact .inr (.inl b.1)
          · exact .inr (.inr b)
        · rintro (b | b | b)
          · exact .inl (.inl b)
          · exact .inl (.inr ⟨b, a⟩)
          · exact .inr (.inr b)
      · constructor
        · rintro ((b | b) | b | b)
          · exact .inl b
          · exact absurd b.2 a
          · exact .inr (.inl b.1)
          · exact .inr (.inr b)
        · rintro (b | b | b)
          · exact .inl (.inl b)
          · exact .inr (.inl ⟨b, fun c => a c.2⟩)
          · exact .inr (.inr b)
    · have b := (r2 n).1 hn.2
      rcases (a2 n).1 hn.1 with c | c
      · exact u2 n ⟨c, b.1⟩
      · exact b.2 c
    · rcases (a2 n).1 hn.1 with c | c
      · exact u3 n ⟨c, hn.2⟩
      · exact u4 n ⟨((k2 n).1 c).1, hn.2⟩
    · exact u4 n ⟨((r2 n).1 hn.1).1, hn.2⟩
    · exact (okR_high r1).2 fun n hn => (okR_high f3).1 e3 n ((r2 n).1 hn).1
  · exact h
theorem akS_doc {s : Sn} (p : Pc) (h : docSn s) : docSn (akS true s p) := by
  unfold akS
  split
  · rename_i hc
    obtain ⟨_, h1, hp⟩ := hc
    obtain ⟨f, u, e⟩ := h.low (by omega)
    obtain ⟨f1, f2, f3, f4, f5, f6, f7⟩ := f
    obtain ⟨e1, e2, e3, e4, e5, e6, e7⟩ := e
    obtain ⟨k1, k2⟩ := comS_ok f3 hp f1.2.2.2.2.2.1
    obtain ⟨a1, a2⟩ := addLs_ok _ s.ac (-1) (Int.le_refl _) f4 k1
    obtain ⟨r1, r2⟩ := remLs_ok _ s.fl (-1) (Int.le_refl _) f3 k1
    dsimp only
    rw [if_pos a1]
    generalize addLs s.ac (comS s p) = q at *
    generalize remLs s.fl (comS s p) = g at *
    have hfi : (0 ≤ (if p.fin = true ∧ s.fi = 2 then (3 : Int) else s.fi) ∧ (if p.fin = true ∧ s.fi = 2 then (3 : Int) else s.fi) ≤ 3) ∧ ((if p.fin = true ∧ s.fi = 2 then (3 : Int) else s.fi) = 0 ↔ s.fin = -1) := by
      split
      · rename_i h9
        exact ⟨by omega, ⟨fun h => (by cases h), fun h => absurd h (hp.2.2.2 h9.1).1⟩⟩
      · exact ⟨f7, e5⟩
    generalize (if p.fin = true ∧ s.fi = 2 then (3 : Int) else s.fi) = i at *
    obtain ⟨u1, u2, u3, u4⟩ := u
    have hge : s.rn.base ≤ gapR q 0 := by
      refine Int.not_lt.1 fun h9 => ?_
      have hfull := gapR_full s.ac (-1) 0 (gapR q 0) f4 (gapR_ge q 0) (by rw [e1]; exact h9)
      exact gapR_free q (-1) 0 a1 ((a2 _).2 (.inl hfull))
    have hle : gapR q 0 ≤ s.rn.en := by
      refine Int.not_lt.1 fun h9 => ?_
      have hfull := gapR_full q (-1) 0 s.rn.en a1 (by have := f5; omega) h9
      rcases (a2 _).1 hfull with c | c
      · have := (u1 s.rn.en).1 (.inr (.inr c)); omega
      · have := (u1 s.rn.en).1 (.inr (.inl ((k2 _).1 c).1)); omega
    have hcd : canD s.rn (gapR q 0) := ⟨f1, hge, hle⟩
    have hdr : (drR s.rn (gapR q 0)).base = gapR q 0 ∧ (drR s.rn (gapR q 0)).en = s.rn.en := by
      unfold drR
      rw [if_pos hcd]
      exact ⟨rfl, rfl⟩
    have hdk := drR_ok (t := gapR q 0) f1
    generalize drR s.rn (gapR q 0) = rn' at *
    refine docSn.mk' (fixS_st _) ⟨hdk, f2, r1, a1, ⟨f5.1, by show s.sent ≤ rn'.en; rw [hdr.2]; exact f5.2⟩, f6, hfi.1⟩ ⟨fun n => ?_, fun n hn => ?_, fun n hn => ?_, fun n hn => ?_⟩ ⟨hdr.1.symm, e2, ?_, ?_, hfi.2, fun h9 => (e6 h9).trans hdr.2.symm, (folS_fix _).symm⟩
    · show hasR s.pe n ∨ hasR g n ∨ hasR q n ↔ 0 ≤ n ∧ n < rn'.en
      rw [hdr.2, a2, r2, k2, ← u1]
      by_cases a : p.off ≤ n ∧ n < p.off + p.data.size
      · constructor
        · rintro (b | b | b | b)
          · exact .inl b
          · exact .inr (.inl b.1)
          · exact .inr (.inr b)
          · exact .inr (.inl b.1)
        · rintro (b | b | b)
          · exact .inl b
          · exact .inr (.inr (.inr ⟨b, a⟩))
          · exact .inr (.inr (.inl b))
      · constructor
        · rintro (b | b | b | b)
          · exact .inl b
          · exact .inr (.inl b.1)
          · exact .inr (.inr b)
          · exact absurd b.2 a
        · rintro (b | b | b)
          · exact .inl b
          · exact .inr (.inl ⟨b, fun c => a c.2⟩)
          · exact .inr (.inr (.inl b))
    · exact u2 n ⟨hn.1, ((r2 n).1 hn.2).1⟩
    · rcases (a2 n).1 hn.2 with c | c
      · exact u3 n ⟨hn.1, c⟩
      · exact u2 n ⟨hn.1, ((k2 n).1 c).1⟩
    · have b := (r2 n).1 hn.1
      rcases (a2 n).1 hn.2 with c | c
      · exact u4 n ⟨b.1, c⟩
      · exact b.2 c
    · exact (okR_high r1).2 fun n hn => (okR_high f3).1 e3 n ((r2 n).1 hn).1
    · refine (okR_high a1).2 fun n hn => ?_
      rcases (a2 n).1 hn with c | c
      · exact (okR_high f4).1 e4 n c
      · exact (okR_high f3).1 e3 n ((k2 n).1 c).1
  · exact h
end Go.Proofs.YtdaoaedkjoknmaaGreat.Num

namespace Go.Proofs.YtdaoaedkjoknmaaGreat.Num
theorem okR_len (l : List Rg) : ∀ p, okR p l → (l.length : Int) ≤ cntR l := by
  induction l with
  | nil => intro p _; exact Int.le_refl _
  | cons x l ih =>
    intro p h
    have := ih x.2 h.2.2.2
    have := h.2.1
    rw [cntR_cons, List.length_cons]
    omega
def nwS (n : Int) : Sn := if powR n then ⟨0, nwR n, [], [], [], -1, 0, 0, 0⟩ else ⟨0, ⟨0, 0, 0, []⟩, [], [], [], 0, 0, 0, 0⟩
theorem nwS_doc {n : Int} (h : powR n) : docSn (nwS n) := by
  have hr := nwR_ok h
  have he : (nwR n).en = 0 ∧ (nwR n).base = 0 := by unfold nwR; rw [if_pos h]; exact ⟨rfl, rfl⟩
  unfold nwS
  rw [if_pos h]
  refine docSn.mk' (by show ¬ ((0 : Int) = 4 ∨ (0 : Int) = 5); decide) ⟨hr, trivial, trivial, trivial, ⟨Int.le_refl _, by show (0 : Int) ≤ (nwR n).en; rw [he.1]; exact Int.le_refl _⟩, ⟨Int.le_refl _, show (0 : Int) ≤ 4611686018427387903 by decide⟩, Int.le_refl _, show (0 : Int) ≤ 3 by decide⟩ ⟨fun m => ⟨fun h => by rcases h with h | h | h <;> exact absurd h (hasR_nil m), fun h => by have h3 : 0 ≤ m ∧ m < (nwR n).en := h; rw [he.1] at h3; omega⟩, fun m h => hasR_nil m h.1, fun m h => hasR_nil m h.1, fun m h => hasR_nil m h.1⟩ ⟨he.2.symm, rfl, fun r h => (by cases h), fun r h => (by cases h), ⟨fun _ => rfl, fun _ => rfl⟩, fun h => absurd rfl h, rfl⟩
end Go.Proofs.YtdaoaedkjoknmaaGreat.Num

namespace Go.Proofs.YtdaoaedkjoknmaaGreat.Num

theorem pkR_size {r : Rn} {o n : Int} (h : canP r o n) : ((pkR r o n).size : Int) = n := by
  unfold pkR
  rw [if_pos h]
  show (((peekL r.size o r.cs n.toNat).toArray.size : Nat) : Int) = n
  rw [List.size_toArray, peekL_len]
  have := h.2.2.1
  omega
theorem pkR_again {r : Rn} {o n : Int} (h : canP r o n) : pkR r o ((pkR r o n).size : Int) = pkR r o n := by rw [pkR_size h]
theorem pe_low {s : Sn} (hw : wholeS s) (he : endS s) {n : Int} (h : hasR s.pe n) (ha : okR (-1) s.ac) : s.rn.base ≤ n ∧ n < s.rn.en := by
  have h1 := (hw.1 n).1 (.inl h)
  refine ⟨?_, h1.2⟩
  by_cases hb : s.rn.base ≤ n
  · exact hb
  · have h2 : n < gapR s.ac 0 := by rw [he.1]; omega
    exact absurd ⟨h, gapR_full s.ac (-1) 0 n ha h1.1 h2⟩ (hw.2.2.1 n)
theorem cutS_in {r : Rg} {m l : Int} (h1 : r.1 < min r.2 l) : cutS r m l ≤ r.2 ∧ cutS r m l ≤ l ∧ cutS r m l - r.1 ≤ max m 0 := by
  unfold cutS
  split <;> omega
theorem nx_ok {s : Sn} (h : docSn s) {m l : Int} {p : Pc} (hp : nxS true s m l = some p) :
    canP s.rn p.off (p.data.size : Int) ∧ pkR s.rn p.off (p.data.size : Int) = p.data ∧ (p.data.size : Int) ≤ max m 0 ∧ (0 < p.data.size → p.off + (p.data.size : Int) ≤ l) ∧ (p.fin = true → p.off + (p.data.size : Int) = s.fin) ∧ canS true s p := by
  unfold nxS at hp
  by_cases hst : s.st ≤ 2
  rotate_left
  · rw [if_pos (fun h => hst h.2)] at hp; cases hp
  rw [if_neg (fun h => h ⟨rfl, hst⟩)] at hp
  obtain ⟨hf, hw, he⟩ := h.low (by omega)
  obtain ⟨f1, f2, f3, f4, f5, f6, f7, f8⟩ := hf
  obtain ⟨r1, r2, r3, r4, r5, r6, r7⟩ := f1
  cases hpe : s.pe with
  | nil =>
    rw [hpe] at hp
    dsimp only at hp
    by_cases hfi : s.fi = 1
    · rw [if_pos hfi] at hp
      injection hp with hp
      subst hp
      have hfn : s.fin ≠ -1 := fun e => by have := he.2.2.2.2.1.2 e; omega
      have hfe := he.2.2.2.2.2.1 hfn
      have hc : canP s.rn s.fin 0 := ⟨⟨r1, r2, r3, r4, r5, r6, r7⟩, by omega, Int.le_refl _, by omega, by omega⟩
      refine ⟨hc, ?_, by show (0 : Int) ≤ _; omega, fun h => absurd h (Nat.lt_irrefl 0), fun _ => by show s.fin + 0 = s.fin; omega, ⟨rfl, hst, ⟨by show 0 ≤ s.fin; omega, by show s.fin ≤ s.rn.en; omega, by show (0 : Int) ≤ s.rn.en - s.fin; omega, fun _ => ⟨hfn, by show s.fin + 0 = s.fin; omega⟩⟩, .inr rfl, fun _ => hfi⟩, fun h => absurd rfl h⟩
      show pkR s.rn s.fin 0 = _
      unfold pkR
      rw [if_pos hc]
      rfl
    · rw [if_neg hfi] at hp; cases hp
  | cons r L =>
    rw [hpe] at hp
    dsimp only at hp
    by_cases hc : min r.2 l ≤ r.1 ∨ cutS r m l ≤ r.1
    · rw [if_pos hc] at hp; cases hp
    · rw [if_neg hc] at hp
      injection hp with hp
      have hc1 : r.1 < min r.2 l := by omega
      have hc2 : r.1 < cutS r m l := by omega
      obtain ⟨q1, q2, q3⟩ := cutS_in (m := m) hc1
      have hm : ∀ n, r.1 ≤ n → n < r.2 → hasR s.pe n := fun n a b => by rw [hpe]; exact ⟨r, List.mem_cons_self .., a, b⟩
      have hr1 : r.1 < r.2 := by omega
      have l1 := pe_low hw he (hm r.1 (Int.le_refl _) hr1) f4
      have l2 := pe_low hw he (hm (r.2 - 1) (by omega) (by omega)) f4
      have hcp : canP s.rn r.1 (cutS r m l - r.1) := ⟨⟨r1, r2, r3, r4, r5, r6, r7⟩, l1.1, by omega, by omega, by omega⟩
      have hsz := pkR_size hcp
      subst hp
      have hs0 : 0 ≤ r.1 := by have := (hw.1 r.1).1 (.inl (hm r.1 (Int.le_refl _) hr1)); omega
      have hfin : ∀ (e : (decide (s.fi = 1) && decide (cutS r m l = s.fin)) = true), s.fi = 1 ∧ cutS r m l = s.fin := fun e => by simpa using e
      refine ⟨by show canP s.rn r.1 ((pkR s.rn r.1 (cutS r m l - r.1)).size : Int); rw [hsz]; exact hcp, pkR_again hcp, by show ((pkR s.rn r.1 (cutS r m l - r.1)).size : Int) ≤ _; omega, fun _ => by show r.1 + ((pkR s.rn r.1 (cutS r m l - r.1)).size : Int) ≤ _; omega, fun e => by have := hfin e; show r.1 + ((pkR s.rn r.1 (cutS r m l - r.1)).size : Int) = _; omega, ⟨rfl, hst, ⟨hs0, by show r.1 ≤ s.rn.en; omega, by show ((pkR s.rn r.1 (cutS r m l - r.1)).size : Int) ≤ s.rn.en - r.1; omega, fun e => ?_⟩, .inl (by show (pkR s.rn r.1 (cutS r m l - r.1)).size ≠ 0; omega), fun e => (hfin e).1⟩, fun _ => ?_⟩
      · have h9 := hfin e
        exact ⟨fun e2 => by have := he.2.2.2.2.1.2 e2; omega, by show r.1 + ((pkR s.rn r.1 (cutS r m l - r.1)).size : Int) = _; omega⟩
      · have hpc : pcR ⟨r.1, pkR s.rn r.1 (cutS r m l - r.1), decide (s.fi = 1) && decide (cutS r m l = s.fin)⟩ = (r.1, cutS r m l) := by
          unfold pcR
          dsimp only
          rw [hsz]
          congr 1
          omega
        rw [hpc]
        have ho : okR (-1) [(r.1, cutS r m l)] := ⟨by show (-1 : Int) < r.1; omega, hc2, by show cutS r m l ≤ _; omega, trivial⟩
        refine okR.uniq (comR_ok _ ho s.pe (-1) (Int.le_refl _) f2) ho (fun n => ?_)
        rw [comR_has, hasR_cons]
        constructor
        · rintro ⟨_, h2⟩; exact h2
        · intro h2
          rcases h2 with h2 | h2
          · exact ⟨hm n h2.1 (by have : n < cutS r m l := h2.2; omega), .inl h2⟩
          · exact absurd h2 (hasR_nil n)
end Go.Proofs.YtdaoaedkjoknmaaGreat.Num

namespace Go.Proofs.YtdaoaedkjoknmaaGreat.Num

theorem end_ins_le {b : Bf} {o : Int} {d : ByteArray} (h : okB b) : endB (insB b o d) ≤ max (endB b) (o + d.size) := by
  by_cases hc : canI b o d
  · have hy := insB_ok b o d h
    have hge := endB_ge h
    cases hz : (insB b o d).chs.getLast? with
    | none =>
      have e : endB (insB b o d) = (insB b o d).next := by unfold endB; rw [if_pos hy, hz]
      rw [e, insB_next]
      omega
    | some z =>
      have hzm := List.mem_of_getLast? hz
      have e : endB (insB b o d) = z.off + z.data.size := by unfold endB; rw [if_pos hy, hz]
      have h4 := okR.below hy.1 (ckR z) (List.mem_map_of_mem hzm)
      have h6 : z.off < z.off + (z.data.size : Int) := h4.2.1
      have hb : 0 ≤ byteB (insB b o d).chs (endB (insB b o d) - 1) := (byteB_has _ _ (by have := hy.2; omega) hy.1 _).2 ⟨ckR z, List.mem_map_of_mem hzm, by show z.off ≤ _ - 1; omega, by show _ - 1 < z.off + z.data.size; omega⟩
      rw [insB_byte b o d hc] at hb
      by_cases h0 : 0 ≤ byteB b.chs (endB (insB b o d) - 1)
      · obtain ⟨r, hr, _, h1⟩ := (byteB_has _ _ (by have := h.2; omega) h.1 _).1 h0
        obtain ⟨c, hcm, rfl⟩ := List.mem_map.1 hr
        have h7 := endB_max h c hcm
        have h8 : endB (insB b o d) - 1 < c.off + (c.data.size : Int) := h1
        omega
      · rw [if_neg h0] at hb
        by_cases h1 : max o b.next ≤ endB (insB b o d) - 1 ∧ endB (insB b o d) - 1 < o + d.size
        · omega
        · rw [if_neg h1] at hb
          omega
  · rw [show insB b o d = b from if_neg hc]
    omega
theorem okRc_fill {x : Rc} (hh : headRc x) (hc : x.code = 0) (hs : ¬ fullRc x → stRc x) : okRc (fillRc x) := by
  unfold fillRc
  by_cases hf : fullRc x
  · rw [if_pos hf]
    exact ⟨hh, .inr (.inr (.inl ⟨rfl, hf, hc⟩))⟩
  · rw [if_neg hf]
    exact ⟨hh, hs hf⟩
theorem okRc_low {r : Rc} (h : okRc r) (hs : ¬ 1 < r.st) : r.code = 0 ∧ ((r.st = 0 ∧ r.fin = -1) ∨ (r.st = 1 ∧ r.fin ≠ -1 ∧ ¬ fullRc r)) := by
  rcases h.2 with ⟨h0, h1, h2⟩ | ⟨h0, h1, h2, h3⟩ | ⟨h0, _⟩ | ⟨h0, _⟩ | ⟨h0 | h0, _⟩
  · exact ⟨h2, .inl ⟨h0, h1⟩⟩
  · exact ⟨h3, .inr ⟨h0, h1, h2⟩⟩
  all_goals omega
theorem okRc_dat {r : Rc} {o : Int} {d : ByteArray} {f : Bool} (h : okRc r) (h0 : 0 ≤ o) (h1 : o ≤ 4611686018427387903 - d.size) (hb : ¬ badRc r (o + d.size) f) (hs : ¬ 1 < r.st) : okRc (datRc r o d f) := by
  obtain ⟨hc, hst⟩ := okRc_low h hs
  obtain ⟨⟨a1, a2, a3, a4, a5, a6, a7⟩, _⟩ := h
  have e1 := end_ins_le (b := r.buf) (o := o) (d := d) a1
  unfold badRc at hb
  have hb1 : r.fin ≠ -1 → o + (d.size : Int) ≤ r.fin := fun hf => by
    have : ¬ r.fin < o + (d.size : Int) := fun hx => hb (.inl ⟨hf, .inl hx⟩)
    omega
  have a5' : r.fin ≠ -1 → r.hi ≤ r.fin := fun hf => by
    have : ¬ r.fin < r.hi := fun hx => a5 ⟨hf, hx⟩
    omega
  unfold datRc
  refine okRc_fill ⟨insB_ok _ _ _ a1, ⟨by show 0 ≤ max r.hi _; omega, by show max r.hi _ ≤ _; omega⟩, by show endB (insB r.buf o d) ≤ max r.hi _; omega, a4, ?_, ?_, ?_⟩ hc ?_
  · cases f with
    | false =>
      rintro ⟨hf, hlt⟩
      have hf : r.fin ≠ -1 := hf
      have hlt : r.fin < max r.hi (o + (d.size : Int)) := hlt
      have := hb1 hf
      have := a5' hf
      omega
    | true =>
      rintro ⟨_, hlt⟩
      have hlt : o + (d.size : Int) < max r.hi (o + (d.size : Int)) := hlt
      have : ¬ o + (d.size : Int) < r.hi := fun hx => hb (.inr ⟨rfl, hx⟩)
      omega
  · cases f with
    | false => exact a6
    | true => show o + (d.size : Int) ≤ _; omega
  · cases f with
    | false => exact a7
    | true => show -1 ≤ o + (d.size : Int); omega
  · intro hnf
    cases f with
    | false =>
      rcases hst with ⟨s0, s1⟩ | ⟨s0, s1, s2⟩
      · exact .inl ⟨s0, s1, hc⟩
      · exact .inr (.inl ⟨s0, s1, hnf, hc⟩)
    | true => exact .inr (.inl ⟨rfl, by show o + (d.size : Int) ≠ -1; omega, hnf, hc⟩)
theorem okRc_rcv {r : Rc} (o : Int) (d : ByteArray) (f : Bool) (h : okRc r) : okRc (rcvRc r o d f).1 := by
  unfold rcvRc
  split
  · exact h
  · rename_i hv
    have hv := Decidable.not_not.1 hv
    split
    · exact h
    · rename_i hb
      split
      · exact h
      · rename_i hs
        exact okRc_dat h hv.2.1 hv.2.2 hb hs
end Go.Proofs.YtdaoaedkjoknmaaGreat.Num

namespace Go.Proofs.YtdaoaedkjoknmaaGreat.Num

def AddP (r : Rg) (l : List Rg) (j : Nat) (c : Rg) (acc : List Rg) (pl : Bool) : Prop :=
  acc.length + (if pl = true then 0 else 1) ≤ j + 1 ∧ c.1 < c.2 ∧ (pl = false → addR r l = acc ++ addR c (l.drop j)) ∧ (pl = true → addR r l = acc ++ l.drop j ∧ ∀ y ∈ l.drop j, c.2 < y.1 ∧ c.1 ≤ y.2)
theorem addR_cons (r x : Rg) (l : List Rg) : addR r (x :: l) = if x.2 < r.1 then x :: addR r l else if r.2 < x.1 then r :: x :: l else addR (min r.1 x.1, max r.2 x.2) l := by rw [addR]
theorem AddP.start (r : Rg) (l : List Rg) (h : fineR r) : AddP r l 0 r [] false := ⟨by simp, h.2.1, fun _ => by simp, fun h => by cases h⟩
theorem AddP.low {r : Rg} {l : List Rg} {j : Nat} {c : Rg} {acc : List Rg} (h : AddP r l j c acc false) (hj : j < l.length) (h1 : l[j].2 < c.1) : AddP r l (j + 1) c (acc ++ [l[j]]) false := by
  obtain ⟨a, b, d, _⟩ := h
  refine ⟨by simp at a ⊢; omega, b, fun _ => ?_, fun h => by cases h⟩
  rw [d rfl, List.drop_eq_getElem_cons hj]
  rw [addR_cons, if_pos h1, List.append_assoc, List.singleton_append]
theorem okR.drop {l : List Rg} : ∀ {p : Int} (j : Nat), okR p l → ∃ q, okR q (l.drop j) := by
  induction l with
  | nil => intro p j _; exact ⟨0, by simp; trivial⟩
  | cons x l ih =>
    intro p j h
    cases j with
    | zero => exact ⟨p, h⟩
    | succ j => exact ih j h.2.2.2
theorem AddP.put {r : Rg} {l : List Rg} {j : Nat} {c : Rg} {acc : List Rg} {p : Int} (h : AddP r l j c acc false) (hk : okR p l) (hj : j < l.length) (h1 : ¬ l[j].2 < c.1) (h2 : c.2 < l[j].1) : AddP r l (j + 1) c (acc ++ [c] ++ [l[j]]) true := by
  obtain ⟨a, b, d, _⟩ := h
  obtain ⟨q, hq⟩ := hk.drop j
  rw [List.drop_eq_getElem_cons hj] at hq
  refine ⟨by simp at a ⊢; omega, b, fun h => (by cases h), fun _ => ⟨?_, fun y hy => ?_⟩⟩
  · rw [d rfl, List.drop_eq_getElem_cons hj]
    unfold addR
    rw [if_neg h1, if_pos h2]
    simp
  · have h3 := hq.2.2.2.below y hy
    have h4 := hq.2.1
    omega
theorem AddP.mix {r : Rg} {l : List Rg} {j : Nat} {c : Rg} {acc : List Rg} (h : AddP r l j c acc false) (hj : j < l.length) (h1 : ¬ l[j].2 < c.1) (h2 : ¬ c.2 < l[j].1) : AddP r l (j + 1) (min c.1 l[j].1, max c.2 l[j].2) acc false := by
  obtain ⟨a, b, d, _⟩ := h
  refine ⟨by simp at a ⊢; omega, by show min c.1 l[j].1 < max c.2 l[j].2; omega, fun _ => ?_, fun h => by cases h⟩
  rw [d rfl, List.drop_eq_getElem_cons hj]
  conv => lhs; unfold addR
  rw [if_neg h1, if_neg h2]
theorem AddP.rest {r : Rg} {l : List Rg} {j : Nat} {c : Rg} {acc : List Rg} (h : AddP r l j c acc true) (hj : j < l.length) : ¬ l[j].2 < c.1 ∧ c.2 < l[j].1 ∧ AddP r l (j + 1) c (acc ++ [l[j]]) true := by
  obtain ⟨a, b, _, d⟩ := h
  obtain ⟨e, f⟩ := d rfl
  rw [List.drop_eq_getElem_cons hj] at e f
  have f0 := f _ List.mem_cons_self
  refine ⟨by omega, f0.1, by simp at a ⊢; omega, b, fun h => (by cases h), fun _ => ⟨?_, fun y hy => f y (List.mem_cons_of_mem _ hy)⟩⟩
  rw [e]
  simp
theorem AddP.last {r : Rg} {l : List Rg} {c : Rg} {acc : List Rg} (h : AddP r l l.length c acc false) : addR r l = acc ++ [c] := by
  rw [h.2.2.1 rfl, List.drop_length]
  rfl
theorem AddP.all {r : Rg} {l : List Rg} {c : Rg} {acc : List Rg} (h : AddP r l l.length c acc true) : addR r l = acc := by
  rw [(h.2.2.2 rfl).1, List.drop_length, List.append_nil]
end Go.Proofs.YtdaoaedkjoknmaaGreat.Num

namespace Go.Proofs.YtdaoaedkjoknmaaGreat
open Go.RowKit Go.Deep Go.Proofs.YtdaoaedkjoknmaaGreat.Num

theorem code_of_row {w : World} {a : Option Addr} {len cap : Nat} {zs : List Int}
    (h : (a = none ∧ len = 0 ∧ cap = 0 ∧ zs = []) ∨
      ∃ x, a = some x ∧ len ≤ cap ∧ cap ≤ maxLen ∧ zs.length = cap ∧ (∀ i, i < zs.length → w.cell? (x.add i) = some (.int .u8 (zs.getD i 0))) ∧ ∀ n ∈ zs, (Lit.int .u8 n).wf = true) :
    len ≤ maxLen ∧ Code w w.heap.size a len := by
  rcases h with ⟨rfl, rfl, _, _⟩ | ⟨x, rfl, hl, hm, hz, hc, hw⟩
  · exact ⟨by decide, fun j hj => absurd hj (by omega)⟩
  · refine ⟨Nat.le_trans hl hm, fun j hj => ?_⟩
    obtain ⟨b, off, spot⟩ := x
    have hs : spot = none := by simpa [Addr.add] using World.cell?_spot (hc 0 (by omega))
    subst hs
    have h0 := hc j (by omega)
    have e : (⟨b, off, none⟩ : Addr).add j = ⟨b, off + j, none⟩ := by
      unfold Addr.add
      split <;> simp_all
    rw [e] at h0
    have hj' : j < zs.length := by omega
    have hwf := hw (zs.getD j 0) (by rw [show zs.getD j 0 = zs[j] from by simp [List.getD, hj']]; exact List.getElem_mem hj')
    have hb : 0 ≤ zs.getD j 0 ∧ zs.getD j 0 ≤ 255 := by
      simp [Lit.wf, IntKind.min, IntKind.max, IntKind.signed, IntKind.bits] at hwf
      simp
      omega
    exact ⟨b, off, _, rfl, block_lt_of_cell h0, hb.1, hb.2, h0⟩
end Go.Proofs.YtdaoaedkjoknmaaGreat

namespace Go.Proofs.YtdaoaedkjoknmaaGreat.Num

def padR (cs : List Int) : List Int := cs ++ List.replicate (64 - cs.length) 0
theorem padR_len {cs : List Int} (h : cs.length ≤ 64) : (padR cs).length = 64 := by unfold padR; simp; omega
theorem putR_app {sz e : Int} (d : ByteArray) {cs : List Int} (zs : List Int) (hs : 1 ≤ sz) (hl : (cs.length : Int) = sz) (k : Nat) : putR sz e d (cs ++ zs) k = putR sz e d cs k ++ zs := by
  induction k with
  | zero => rfl
  | succ k ih =>
    have h1 := (atR_lt hs (e + k)).1
    have h2 := putR_len sz e d cs k
    show (putR sz e d (cs ++ zs) k).set _ _ = (putR sz e d cs k).set _ _ ++ zs
    rw [ih, List.set_append_left _ _ (by omega)]
theorem zerR_app {sz e : Int} {cs : List Int} (zs : List Int) (hs : 1 ≤ sz) (hl : (cs.length : Int) = sz) (k : Nat) : zerR sz e (cs ++ zs) k = zerR sz e cs k ++ zs := by
  induction k with
  | zero => rfl
  | succ k ih =>
    have h1 := (atR_lt hs (e + k)).1
    have h2 := zerR_len sz e cs k
    show (zerR sz e (cs ++ zs) k).set _ _ = (zerR sz e cs k).set _ _ ++ zs
    rw [ih, List.set_append_left _ _ (by omega)]
theorem putR_pad {sz e : Int} (d : ByteArray) {cs : List Int} (hs : 1 ≤ sz) (hl : (cs.length : Int) = sz) (k : Nat) : (putR sz e d (padR cs) k).take cs.length = putR sz e d cs k := by
  have h2 := putR_len sz e d cs k
  unfold padR
  rw [putR_app d _ hs hl k, List.take_append_of_le_length (by omega), List.take_of_length_le (by omega)]
theorem zerR_pad {sz e : Int} {cs : List Int} (hs : 1 ≤ sz) (hl : (cs.length : Int) = sz) (k : Nat) : (zerR sz e (padR cs) k).take cs.length = zerR sz e cs k := by
  have h2 := zerR_len sz e cs k
  unfold padR
  rw [zerR_app _ hs hl k, List.take_append_of_le_length (by omega), List.take_of_length_le (by omega)]
theorem padR_at {cs : List Int} (k : Nat) (hk : k < cs.length) : (padR cs).getD k 0 = cs.getD k 0 := by
  unfold padR
  simp [List.getD_eq_getElem?_getD, List.getElem?_append_left hk]
theorem peekL_pad {sz o : Int} {cs : List Int} (hs : 1 ≤ sz) (hl : (cs.length : Int) = sz) (k : Nat) : peekL sz o (padR cs) k = peekL sz o cs k :=
  peekL_congr k fun j _ => padR_at _ (by have := (atR_lt hs (o + j)).1; omega)
end Go.Proofs.YtdaoaedkjoknmaaGreat.Num

namespace Go.Proofs.YtdaoaedkjoknmaaGreat
abbrev muLink : Go.Conc.Locks.MuLink := { lock := 127, unlock := 128, ilock := 146, iunlock := 147, lockSlow := 156, unlockSlow := 159, disable := 152, enable := 154, acquire := 155, relMerge := 157, cas32 := 153, add32 := 158, tMutex := 161, tIMutex := 159, tPMutex := 186, tPIMutex := 192, tPI32 := 194, tUP := 196, tNoCopy := 156, tU32 := 157 }
theorem muLib : Go.Conc.Locks.MuLib Tryz.prog muLink :=
  ⟨Tryz.func127, Tryz.func128, Tryz.func146, Tryz.func147, Tryz.func152, Tryz.func154, Tryz.func155, Tryz.func157, Tryz.func153, Tryz.func158, Tryz.underlying159, Tryz.runUnderlying159, Tryz.sizeOf159, Tryz.isAgg159, Tryz.zeroValue159, Tryz.underlying161, Tryz.runUnderlying161, Tryz.sizeOf161, Tryz.isAgg161, Tryz.zeroValue161, Tryz.underlying186, Tryz.runUnderlying186, Tryz.sizeOf186, Tryz.isAgg186, Tryz.zeroValue186, Tryz.underlying192, Tryz.runUnderlying192, Tryz.sizeOf192, Tryz.isAgg192, Tryz.zeroValue192, Tryz.underlying194, Tryz.runUnderlying194, Tryz.sizeOf194, Tryz.isAgg194, Tryz.zeroValue194, Tryz.underlying196, Tryz.runUnderlying196, Tryz.sizeOf196, Tryz.isAgg196, Tryz.zeroValue196, Tryz.underlying156, Tryz.runUnderlying156, Tryz.sizeOf156, Tryz.isAgg156, Tryz.zeroValue156, Tryz.underlying21, Tryz.runUnderlying21, Tryz.sizeOf21, Tryz.isAgg21, Tryz.zeroValue21, (by kernel_rfl)⟩
end Go.Proofs.YtdaoaedkjoknmaaGreat

namespace Go.Proofs.YtdaoaedkjoknmaaGreat.Num

theorem remR_less (l : List Rg) : ∀ (p : Int) (r : Rg), okR p l → r.1 ≤ p → (remR r l).length ≤ l.length := by
  induction l with
  | nil => intro p r _ _; exact Nat.le_refl _
  | cons x l ih =>
    intro p r h hr
    have h1 := ih x.2 r h.2.2.2 (by have := h.1; have := h.2.1; omega)
    have h2 : (cutR r x).length ≤ 1 := by
      unfold cutR
      rw [if_neg (by have := h.1; omega)]
      split <;> simp
    show (cutR r x ++ remR r l).length ≤ _
    rw [List.length_append, List.length_cons]
    omega
theorem remR_one (l : List Rg) : ∀ (p : Int) (r : Rg), okR p l → r.1 < r.2 → (remR r l).length ≤ l.length + 1 := by
  induction l with
  | nil => intro p r _ _; exact Nat.zero_le _
  | cons x l ih =>
    intro p r h hr
    show (cutR r x ++ remR r l).length ≤ _
    rw [List.length_append, List.length_cons]
    by_cases hc : max x.1 r.2 < x.2
    · have h1 := remR_less l x.2 r h.2.2.2 (by omega)
      have h2 : (cutR r x).length ≤ 2 := by
        unfold cutR
        rw [if_pos hc]
        split <;> simp
      omega
    · have h1 := ih x.2 r h.2.2.2 hr
      have h2 : (cutR r x).length ≤ 1 := by
        unfold cutR
        rw [if_neg hc]
        split <;> simp
      omega
theorem remL_len (l : List Rg) (r : Rg) : (remL l r).length ≤ l.length + 1 := by
  unfold remL
  split
  · rename_i h; exact remR_one l (-1) r h.1 h.2.2.1
  · exact Nat.le_succ _
theorem addL_len (l : List Rg) (r : Rg) : (addL l r).length ≤ l.length + 1 := by
  unfold addL
  split
  · exact addR_len l r
  · exact Nat.le_succ _
theorem remLs_len (c : List Rg) : ∀ l, (remLs l c).length ≤ l.length + c.length := by
  induction c with
  | nil => intro l; exact Nat.le_refl _
  | cons r c ih =>
    intro l
    have := ih (remL l r)
    have := remL_len l r
    show (remLs (remL l r) c).length ≤ _
    rw [List.length_cons]
    omega
theorem addLs_len (c : List Rg) : ∀ l, (addLs l c).length ≤ l.length + c.length := by
  induction c with
  | nil => intro l; exact Nat.le_refl _
  | cons r c ih =>
    intro l
    have := ih (addL l r)
    have := addL_len l r
    show (addLs (addL l r) c).length ≤ _
    rw [List.length_cons]
    omega
theorem remLs_step (l c : List Rg) (j : Nat) (h : j < c.length) : remLs l (c.take (j + 1)) = remL (remLs l (c.take j)) c[j] := by
  unfold remLs
  rw [List.take_succ_eq_append_getElem h, List.foldl_append]
  rfl
theorem addLs_step (l c : List Rg) (j : Nat) (h : j < c.length) : addLs l (c.take (j + 1)) = addL (addLs l (c.take j)) c[j] := by
  unfold addLs
  rw [List.take_succ_eq_append_getElem h, List.foldl_append]
  rfl
end Go.Proofs.YtdaoaedkjoknmaaGreat.Num

namespace Go.Proofs.YtdaoaedkjoknmaaGreat.Num

theorem okR.tail {a b : List Rg} : ∀ {p : Int}, okR p (a ++ b) → ∃ q, p ≤ q ∧ okR q b := by
  induction a with
  | nil => intro p h; exact ⟨p, Int.le_refl _, h⟩
  | cons x a ih =>
    intro p h
    obtain ⟨q, h1, h2⟩ := ih h.2.2.2
    have := h.1
    have := h.2.1
    exact ⟨q, by omega, h2⟩
theorem okR.sep {a b : List Rg} : ∀ {p : Int}, okR p (a ++ b) → ∀ x ∈ a, ∀ y ∈ b, x.2 < y.1 := by
  induction a with
  | nil => intro p _ x hx; cases hx
  | cons z a ih =>
    intro p h x hx y hy
    rcases List.mem_cons.1 hx with rfl | hx
    · exact (okR.below h.2.2.2 y (List.mem_append_right _ hy)).1
    · exact ih h.2.2.2 x hx y hy
theorem okR.up {q q' : Int} {b : List Rg} (h : okR q b) (hq : ∀ x ∈ b, q' < x.1) : okR q' b := by
  cases b with
  | nil => trivial
  | cons x b => exact ⟨hq x (List.mem_cons_self ..), h.2⟩
theorem okR.one {l : List Ch} : ∀ {p : Int}, okR p (l.map ckR) → ∀ i j (hi : i < j) (hj : j < l.length), (l[i]'(Nat.lt_trans hi hj)).off + (l[i]'(Nat.lt_trans hi hj)).data.size < l[j].off := by
  induction l with
  | nil => intro p _ i j _ hj; cases hj
  | cons x l ih =>
    intro p h i j hi hj
    cases j with
    | zero => omega
    | succ j =>
      cases i with
      | zero =>
        have hj' : j < l.length := Nat.lt_of_succ_lt_succ hj
        have := okR.below h.2.2.2 (ckR l[j]) (List.mem_map_of_mem (List.getElem_mem (Nat.lt_of_succ_lt_succ hj)))
        exact this.1
      | succ i => exact ih h.2.2.2 i j (by omega) (by simpa using hj)
theorem byteB_append (a b : List Ch) (n : Int) : byteB (a ++ b) n = if 0 ≤ byteB a n then byteB a n else byteB b n := by
  induction a with
  | nil => rfl
  | cons x a ih =>
    rw [List.cons_append]
    by_cases h : inC x n
    · have h2 : byteB (x :: a) n = atC x n := by show (if inC x n then _ else _) = _; rw [if_pos h]
      have h3 : byteB (x :: (a ++ b)) n = atC x n := by show (if inC x n then _ else _) = _; rw [if_pos h]
      rw [h2, h3, if_pos (show 0 ≤ atC x n from (bytD_in _ _).1)]
    · have h2 : byteB (x :: a) n = byteB a n := by show (if inC x n then _ else _) = _; rw [if_neg h]
      have h3 : byteB (x :: (a ++ b)) n = byteB (a ++ b) n := by show (if inC x n then _ else _) = _; rw [if_neg h]
      rw [h2, h3, ih]
theorem byteB_of (l : List Ch) (p : Int) (hp : -1 ≤ p) (h : okR p (l.map ckR)) (n : Int) : 0 ≤ byteB l n ↔ ∃ x ∈ l, x.off ≤ n ∧ n < x.off + x.data.size := by
  rw [byteB_has l p hp h n]
  constructor
  · rintro ⟨r, hr, h1, h2⟩
    obtain ⟨x, hx, rfl⟩ := List.mem_map.1 hr
    exact ⟨x, hx, h1, h2⟩
  · rintro ⟨x, hx, h1, h2⟩
    exact ⟨ckR x, List.mem_map_of_mem hx, h1, h2⟩
theorem byteB_neg (l : List Ch) (n : Int) (h : ¬ 0 ≤ byteB l n) : byteB l n = -1 := by
  rcases byteB_cases l n with h2 | h2 <;> omega

structure Joins (c : Ch) (R : List Ch) (J : Ch) : Prop where
  lo : J.off ≤ c.off ∧ ∀ x ∈ R, J.off ≤ x.off
  lo1 : J.off = c.off ∨ ∃ x ∈ R, J.off = x.off
  hi : c.off + c.data.size ≤ J.off + J.data.size ∧ ∀ x ∈ R, x.off + x.data.size ≤ J.off + J.data.size
  hi1 : J.off + J.data.size = c.off + c.data.size ∨ ∃ x ∈ R, J.off + J.data.size = x.off + x.data.size
  at_ : ∀ n, inC J n → atC J n = if 0 ≤ byteB R n then byteB R n else if inC c n then atC c n else 0
theorem Joins.none (c : Ch) : Joins c [] c :=
  ⟨⟨Int.le_refl _, fun x hx => by cases hx⟩, Or.inl rfl, ⟨Int.le_refl _, fun x hx => by cases hx⟩, Or.inl rfl, fun n h => by
    rw [if_neg (by show ¬ (0 : Int) ≤ -1; omega), if_pos h]⟩

theorem insI {b : Bf} {o : Int} {d : ByteArray} (hc : canI b o d) (L1 R L2 : List Ch) (hl : b.chs = L1 ++ (R ++ L2)) (c : Ch) (hc0 : c.off = max o b.next) (hc1 : c.off + c.data.size = o + d.size)
    (hcd : ∀ n, c.off ≤ n → n < o + d.size → atC c n = bytD d (n - o).toNat)
    (h1 : ∀ x ∈ L1, x.off + x.data.size < c.off) (h2 : ∀ x ∈ R, x.off ≤ c.off + c.data.size ∧ c.off ≤ x.off + x.data.size) (h3 : ∀ x ∈ L2, c.off + c.data.size < x.off)
    (J : Ch) (hJ : Joins c R J) : insB b o d = ⟨b.next, L1 ++ J :: L2⟩ := by
  have ja := hJ.lo.1
  have jb := hJ.lo.2
  have jd := hJ.hi.1
  have je := hJ.hi.2
  have jg := hJ.at_
  have hok := hc.1.1
  have hn0 := hc.1.2.1
  have hn1 := hc.1.2.2
  have hmax := hc.2.2.2.1
  have hnew := hc.2.2.2.2
  have hdz := hc.2.1
  have hcz : c.off < c.off + c.data.size := by omega
  rw [hl, List.map_append, List.map_append] at hok
  have hokA : okR (b.next - 1) (L1.map ckR) := hok.prefix
  obtain ⟨q, hq1, hq⟩ := okR.tail hok
  have hokR : okR q (R.map ckR) := hq.prefix
  obtain ⟨q2, hq3, hq2⟩ := okR.tail hq
  have sep1 : ∀ x ∈ L1, ∀ y ∈ R, x.off + x.data.size < y.off := fun x hx y hy => okR.sep hok (ckR x) (List.mem_map_of_mem hx) (ckR y) (List.mem_append_left _ (List.mem_map_of_mem hy))
  have sep2 : ∀ x ∈ R, ∀ y ∈ L2, x.off + x.data.size < y.off := fun x hx y hy => okR.sep hq (ckR x) (List.mem_map_of_mem hx) (ckR y) (List.mem_map_of_mem hy)
  have inR : ∀ x ∈ R, q < x.off ∧ x.off < x.off + x.data.size ∧ x.off + (x.data.size : Int) ≤ 4611686018427387903 := fun x hx => okR.below hokR (ckR x) (List.mem_map_of_mem hx)
  have hJlo : b.next ≤ J.off := by
    rcases hJ.lo1 with e | ⟨x, hx, e⟩
    · omega
    · have := inR x hx
      omega
  have hJhi : J.off + (J.data.size : Int) ≤ 4611686018427387903 := by
    rcases hJ.hi1 with e | ⟨x, hx, e⟩
    · omega
    · have := inR x hx
      omega
  have hJ1 : ∀ x ∈ L1, x.off + x.data.size < J.off := fun x hx => by
    rcases hJ.lo1 with e | ⟨y, hy, e⟩
    · have := h1 x hx
      omega
    · have := sep1 x hx y hy
      omega
  have hJ2 : ∀ x ∈ L2, J.off + J.data.size < x.off := fun x hx => by
    rcases hJ.hi1 with e | ⟨y, hy, e⟩
    · have := h3 x hx
      omega
    · have := sep2 y hy x hx
      omega
  have hJokT : okR (J.off - 1) ((J :: L2).map ckR) := ⟨by show J.off - 1 < J.off; omega, by show J.off < J.off + J.data.size; omega, hJhi, okR.up hq2 fun r hr => by
    obtain ⟨x, hx, rfl⟩ := List.mem_map.1 hr
    exact hJ2 x hx⟩
  have hNok : okR (b.next - 1) ((L1 ++ J :: L2).map ckR) := by
    rw [List.map_append]
    refine okR_append hokA hJokT (fun r hr => ?_) (by omega)
    obtain ⟨x, hx, rfl⟩ := List.mem_map.1 hr
    have := hJ1 x hx
    show x.off + (x.data.size : Int) ≤ J.off - 1
    omega
  refine bf_uniq (insB_ok b o d hc.1) ⟨hNok, hc.1.2⟩ (insB_next b o d) fun n => ?_
  show _ = byteB (L1 ++ J :: L2) n
  rw [insB_byte b o d hc n, hl, byteB_append L1, byteB_append R, byteB_append L1]
  by_cases hA : 0 ≤ byteB L1 n
  · simp only [if_pos hA]
  · simp only [if_neg hA]
    have hJn : byteB (J :: L2) n = if inC J n then atC J n else byteB L2 n := rfl
    rw [hJn]
    have hBR := byteB_of R q (by omega) hokR n
    have hB2 := byteB_of L2 q2 (by omega) hq2 n
    by_cases hj : inC J n
    · rw [if_pos hj, jg n hj]
      obtain ⟨_, hj1, hj2⟩ := hj
      by_cases hR : 0 ≤ byteB R n
      · simp only [if_pos hR]
      · simp only [if_neg hR]
        have h2n : ¬ 0 ≤ byteB L2 n := fun h => by
          obtain ⟨x, hx, ha, hb⟩ := hB2.1 h
          have := hJ2 x hx
          omega
        rw [if_neg h2n]
        have hin : c.off ≤ n ∧ n < c.off + c.data.size := by
          constructor
          · by_cases hlt : c.off ≤ n
            · exact hlt
            · exfalso
              rcases hJ.lo1 with e | ⟨x, hx, e⟩
              · omega
              · exact hR (hBR.2 ⟨x, hx, by omega, by have := (h2 x hx).2; omega⟩)
          · by_cases hlt : n < c.off + c.data.size
            · exact hlt
            · exfalso
              rcases hJ.hi1 with e | ⟨x, hx, e⟩
              · omega
              · exact hR (hBR.2 ⟨x, hx, by have := (h2 x hx).1; omega, by omega⟩)
        rw [if_pos ⟨by omega, by omega⟩, if_pos ⟨by omega, hin.1, hin.2⟩, hcd n hin.1 (by omega)]
    · rw [if_neg hj]
      have hR : ¬ 0 ≤ byteB R n := fun h => by
        obtain ⟨x, hx, ha, hb⟩ := hBR.1 h
        have h4 := jb x hx
        have h5 := je x hx
        exact hj ⟨by omega, by omega, by omega⟩
      simp only [if_neg hR]
      by_cases h2n : 0 ≤ byteB L2 n
      · simp only [if_pos h2n]
      · rw [if_neg h2n, byteB_neg L2 n h2n, if_neg]
        intro hh
        exact hj ⟨by omega, by omega, by omega⟩

theorem reach_parts {l : List Ch} {p : Int} (h : okR p (l.map ckR)) (lo hi : Nat) (o e : Int) (hlh : lo ≤ hi) (hhl : hi ≤ l.length)
    (hlo : lo < l.length → ∀ hx : lo < l.length, ¬ l[lo].off + l[lo].data.size < o) (hhi : ∀ hx : hi < l.length, e < l[hi].off) :
    l = l.take lo ++ ((l.drop lo).take (hi - lo) ++ l.drop hi) ∧ (∀ x ∈ (l.drop lo).take (hi - lo), o ≤ x.off + x.data.size) ∧ (∀ x ∈ l.drop hi, e < x.off) := by
  refine ⟨?_, fun x hx => ?_, fun x hx => ?_⟩
  · have e1 : l.drop hi = (l.drop lo).drop (hi - lo) := by rw [List.drop_drop]; congr 1; omega
    rw [e1, List.take_append_drop, List.take_append_drop]
  · obtain ⟨j, hj, rfl⟩ := List.getElem_of_mem hx
    rw [List.length_take, List.length_drop] at hj
    rw [List.getElem_take, List.getElem_drop]
    have h0 := hlo (by omega) (by omega)
    cases j with
    | zero => simp only [Nat.add_zero]; omega
    | succ j =>
      have h1 := okR.one h lo (lo + (j + 1)) (by omega) (by omega)
      have h2 := okR.below h (ckR l[lo + (j + 1)]) (List.mem_map_of_mem (List.getElem_mem (by omega)))
      have h3 : l[lo + (j + 1)].off < l[lo + (j + 1)].off + (l[lo + (j + 1)].data.size : Int) := h2.2.1
      omega
  · obtain ⟨j, hj, rfl⟩ := List.getElem_of_mem hx
    rw [List.length_drop] at hj
    rw [List.getElem_drop]
    have h0 := hhi (by omega)
    cases j with
    | zero => simpa using h0
    | succ j =>
      have h1 := okR.one h hi (hi + (j + 1)) (by omega) (by omega)
      have h2 := okR.below h (ckR l[hi]) (List.mem_map_of_mem (List.getElem_mem (by omega)))
      have h3 : l[hi].off < l[hi].off + (l[hi].data.size : Int) := h2.2.1
      omega

def putL (L : List UInt8) (k : Nat) (d : ByteArray) : List UInt8 := L.take k ++ (d.data.toList ++ L.drop (k + d.size))
theorem putL_len {L : List UInt8} {k : Nat} {d : ByteArray} (h : k + d.size ≤ L.length) : (putL L k d).length = L.length := by
  have hd : d.data.toList.length = d.size := by simp
  unfold putL
  rw [List.length_append, List.length_append, List.length_take, List.length_drop, hd]
  omega
def bytL (M : List UInt8) (i : Nat) : Int := ((M.getD i 0).toNat : Int)
theorem putL_at {L : List UInt8} {k : Nat} {d : ByteArray} (h : k + d.size ≤ L.length) (j : Nat) : bytL (putL L k d) j = if k ≤ j ∧ j < k + d.size then bytD d (j - k) else bytL L j := by
  have hd : d.data.toList.length = d.size := by simp
  have htk : (L.take k).length = k := by rw [List.length_take]; omega
  unfold bytL bytD putL
  rw [List.getD_eq_getElem?_getD, List.getElem?_append, htk, List.getElem?_append, hd, List.getElem?_take, List.getElem?_drop]
  by_cases h1 : j < k
  · rw [if_pos h1, if_pos h1, if_neg (by omega), List.getD_eq_getElem?_getD]
  · rw [if_neg h1]
    by_cases h2 : j < k + d.size
    · rw [if_pos (by omega), if_pos ⟨by omega, h2⟩, List.getD_eq_getElem?_getD]
    · rw [if_neg (by omega), if_neg (by omega), List.getD_eq_getElem?_getD, show k + d.size + (j - k - d.size) = j by omega]
structure FillI (c : Ch) (beg : Int) (N : Nat) (R : List Ch) (M : List UInt8) : Prop where
  len : M.length = N
  byte : ∀ i, i < N → bytL M i = if 0 ≤ byteB R (beg + i) then byteB R (beg + i) else if inC c (beg + i) then atC c (beg + i) else 0
theorem FillI.start (c : Ch) (beg : Int) (N : Nat) (h0 : 0 ≤ beg) (h1 : beg ≤ c.off) (h2 : c.off + c.data.size ≤ beg + N) : FillI c beg N [] (putL (List.replicate N 0) (c.off - beg).toNat c.data) := by
  have hl : (c.off - beg).toNat + c.data.size ≤ (List.replicate N (0 : UInt8)).length := by rw [List.length_replicate]; omega
  refine ⟨by rw [putL_len hl, List.length_replicate], fun i hi => ?_⟩
  have hz : byteB [] (beg + (i : Int)) = -1 := rfl
  rw [putL_at hl, hz, if_neg (show ¬ (0 : Int) ≤ -1 by decide)]
  by_cases hc : (c.off - beg).toNat ≤ i ∧ i < (c.off - beg).toNat + c.data.size
  · rw [if_pos hc, if_pos ⟨by omega, by omega, by omega⟩]
    unfold atC
    rw [show (beg + (i : Int) - c.off).toNat = i - (c.off - beg).toNat by omega]
  · rw [if_neg hc, if_neg (fun h => hc ⟨by have := h.2.1; omega, by have := h.2.2; omega⟩)]
    unfold bytL
    rw [List.getD_eq_getElem?_getD, List.getElem?_replicate, if_pos hi]
    rfl
theorem FillI.step {c : Ch} {beg : Int} {N : Nat} {R : List Ch} {M : List UInt8} (h : FillI c beg N R M) (x : Ch) (p : Int) (hp : -1 ≤ p) (hok : okR p ((R ++ [x]).map ckR)) (h0 : 0 ≤ beg) (h1 : beg ≤ x.off) (h2 : x.off + x.data.size ≤ beg + N) :
    FillI c beg N (R ++ [x]) (putL M (x.off - beg).toNat x.data) := by
  have hl : (x.off - beg).toNat + x.data.size ≤ M.length := by rw [h.len]; omega
  refine ⟨by rw [putL_len hl, h.len], fun i hi => ?_⟩
  rw [putL_at hl, byteB_append, h.byte i hi]
  have hx : byteB [x] (beg + i) = if inC x (beg + i) then atC x (beg + i) else -1 := rfl
  rw [hx]
  rw [List.map_append] at hok
  by_cases hc : (x.off - beg).toNat ≤ i ∧ i < (x.off - beg).toNat + x.data.size
  · have hin : inC x (beg + i) := ⟨by omega, by omega, by omega⟩
    have hR : ¬ 0 ≤ byteB R (beg + i) := fun hh => by
      obtain ⟨y, hy, ha, hb⟩ := (byteB_of R p hp hok.prefix _).1 hh
      have h5 : y.off + (y.data.size : Int) < x.off := okR.sep hok (ckR y) (List.mem_map_of_mem hy) (ckR x) (by simp)
      have := hin.2.1
      omega
    rw [if_pos hc, if_neg hR, if_pos hin]
    unfold atC
    rw [show (beg + (i : Int) - x.off).toNat = i - (x.off - beg).toNat by omega, if_pos (bytD_in _ _).1]
  · have hin : ¬ inC x (beg + i) := fun h => hc ⟨by have := h.2.1; omega, by have := h.2.2; omega⟩
    rw [if_neg hc, if_neg hin]
    by_cases hR : 0 ≤ byteB R (beg + i)
    · simp only [if_pos hR]
    · simp only [if_neg hR]
      rw [if_neg (show ¬ (0 : Int) ≤ -1 by decide)]
theorem FillI.joins {c : Ch} {beg : Int} {N : Nat} {R : List Ch} {M : List UInt8} (h : FillI c beg N R M)
    (ja : beg ≤ c.off ∧ ∀ x ∈ R, beg ≤ x.off) (jc : beg = c.off ∨ ∃ x ∈ R, beg = x.off) (jd : c.off + c.data.size ≤ beg + N ∧ ∀ x ∈ R, x.off + x.data.size ≤ beg + N)
    (jf : beg + N = c.off + c.data.size ∨ ∃ x ∈ R, beg + N = x.off + x.data.size) : Joins c R ⟨beg, ⟨M.toArray⟩⟩ := by
  have hs : (⟨M.toArray⟩ : ByteArray).size = N := by
    show M.toArray.size = N
    simp [h.len]
  refine ⟨ja, jc, ?_, ?_, ?_⟩
  · rw [hs]; exact jd
  · rw [hs]; exact jf
  · rintro n ⟨h0, h1, h2⟩
    rw [hs] at h2
    have h1' : beg ≤ n := h1
    have h2' : n < beg + N := h2
    have := h.byte (n - beg).toNat (by omega)
    rw [show beg + (((n - beg).toNat : Nat) : Int) = n by omega] at this
    exact this
theorem joins_ends {R : List Ch} {p : Int} (h : okR p (R.map ckR)) (h0 : 0 < R.length) (x : Ch) (hx : x ∈ R) :
    R[0].off ≤ x.off ∧ x.off + (x.data.size : Int) ≤ (R[R.length - 1]'(by omega)).off + (R[R.length - 1]'(by omega)).data.size := by
  obtain ⟨j, hj, rfl⟩ := List.getElem_of_mem hx
  have hb : ∀ k (hk : k < R.length), R[k].off < R[k].off + (R[k].data.size : Int) := fun k hk => (okR.below h (ckR R[k]) (List.mem_map_of_mem (List.getElem_mem hk))).2.1
  constructor
  · by_cases hj0 : j = 0
    · subst hj0; exact Int.le_refl _
    · have := okR.one h 0 j (by omega) hj
      have := hb 0 h0
      omega
  · by_cases hj1 : j = R.length - 1
    · subst hj1; exact Int.le_refl _
    · have := okR.one h j (R.length - 1) (by omega) (by omega)
      have := hb (R.length - 1) (by omega)
      omega
end Go.Proofs.YtdaoaedkjoknmaaGreat.Num

namespace Go.Proofs.YtdaoaedkjoknmaaGreat
open Go.RowKit Go.Deep Go.Proofs.YtdaoaedkjoknmaaGreat.Num

theorem big_yes (A : Option Addr) (len cap : Nat) (w : World) (h : 1048576 < len) (hl : len ≤ maxLen) :
    Calls Tryz.prog 5 #[.slice A len cap] w fun e w' => e = .returned (.bool true) ∧ w = w' := by
  unfold maxLen at hl
  have hd : decide ((1048576 : Int) < (len : Int)) = true := decide_eq_true (by omega)
  go_enter Tryz.func5, Tryz.ntmps5
  go_wp2
  go_ret
  exact ⟨rfl, rfl⟩
theorem big_no (A : Option Addr) (len cap : Nat) (w : World) (h : len ≤ 1048576) :
    Calls Tryz.prog 5 #[.slice A len cap] w fun e w' => e = .returned (.bool false) ∧ w = w' := by
  have hd : decide ((1048576 : Int) < (len : Int)) = false := decide_eq_false (by omega)
  go_enter Tryz.func5, Tryz.ntmps5
  go_wp2
  go_ret
  exact ⟨rfl, rfl⟩
end Go.Proofs.YtdaoaedkjoknmaaGreat
