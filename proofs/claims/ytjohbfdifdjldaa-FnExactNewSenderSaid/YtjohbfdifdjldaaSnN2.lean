/-
  Plain facts about a sender: what the functions make of it, and that it stays valid. No program is imported.
-/
import Derived.Test.YtjohbfdifdjldaaSnN
namespace Go.Proofs.Ytjohbfdifdjldaa.Num

/-- A piece. -/
structure Pc where
  off : Int
  data : ByteArray
  fin : Bool
def addL (l : List Rg) (r : Rg) : List Rg := if okR (-1) l ∧ fineR r then addR r l else l
def remL (l : List Rg) (r : Rg) : List Rg := if okR (-1) l ∧ fineR r then remR r l else l
theorem addL_ok {l : List Rg} {r : Rg} (h : okR (-1) l) (hr : fineR r) : okR (-1) (addL l r) ∧ ∀ n, hasR (addL l r) n ↔ hasR l n ∨ (r.1 ≤ n ∧ n < r.2) := by
  unfold addL
  rw [if_pos ⟨h, hr⟩]
  exact ⟨addR_ok l (-1) r h (by have := hr.1; omega) hr.2.1 hr.2.2, addR_has l (-1) r h hr.2.1⟩
theorem remL_ok {l : List Rg} {r : Rg} (h : okR (-1) l) (hr : fineR r) : okR (-1) (remL l r) ∧ ∀ n, hasR (remL l r) n ↔ hasR l n ∧ ¬ (r.1 ≤ n ∧ n < r.2) := by
  unfold remL
  rw [if_pos ⟨h, hr⟩]
  exact ⟨remR_ok r hr.2.1 l (-1) h, remR_has r hr.2.1 l⟩
/-- Whether bytes may be written, the end be fixed. b: whether the sender is valid. -/
def canW (b : Bool) (s : Sn) : Prop := b = true ∧ s.st ≤ 1 ∧ s.fin = -1
instance (b : Bool) (s : Sn) : Decidable (canW b s) := by unfold canW; infer_instance
def wrS (b : Bool) (s : Sn) (d : ByteArray) : Sn :=
  if canW b s then { s with rn := wrR s.rn d, pe := if 0 < cntW s.rn d then addL s.pe (s.rn.en, s.rn.en + cntW s.rn d) else s.pe } else s
def wrNS (b : Bool) (s : Sn) (d : ByteArray) : Nat := if canW b s then cntW s.rn d else 0
def clS (b : Bool) (s : Sn) : Sn := if canW b s then { s with fin := s.rn.en, fi := 1 } else s
def canR (b : Bool) (s : Sn) (c : Int) : Prop := b = true ∧ s.st ≤ 2 ∧ 0 ≤ c ∧ c ≤ 4611686018427387903
instance (b : Bool) (s : Sn) (c : Int) : Decidable (canR b s c) := by unfold canR; infer_instance
def rsS (b : Bool) (s : Sn) (c : Int) : Sn :=
  if canR b s c then ⟨4, ⟨s.rn.size, s.sent, s.sent, List.replicate s.rn.size.toNat 0⟩, [], [], [], s.sent, 0, s.sent, c⟩ else s
/-- Where the next piece ends, of the first range that is to be sent. -/
def cutS (r : Rg) (most limit : Int) : Int := if most < min r.2 limit - r.1 then r.1 + max most 0 else min r.2 limit
def nxS (b : Bool) (s : Sn) (most limit : Int) : Option Pc :=
  if ¬ (b = true ∧ s.st ≤ 2) then none
  else match s.pe with
    | r :: _ => if min r.2 limit ≤ r.1 ∨ cutS r most limit ≤ r.1 then none else some ⟨r.1, pkR s.rn r.1 (cutS r most limit - r.1), decide (s.fi = 1) && decide (cutS r most limit = s.fin)⟩
    | [] => if s.fi = 1 then some ⟨s.fin, ⟨#[]⟩, true⟩ else none
def pcR (p : Pc) : Rg := (p.off, p.off + p.data.size)
/-- The piece lies within what was written. -/
def inP (s : Sn) (p : Pc) : Prop := 0 ≤ p.off ∧ p.off ≤ s.rn.en ∧ (p.data.size : Int) ≤ s.rn.en - p.off ∧ (p.fin = true → s.fin ≠ -1 ∧ p.off + p.data.size = s.fin)
instance (s : Sn) (p : Pc) : Decidable (inP s p) := by unfold inP; infer_instance
def canS (b : Bool) (s : Sn) (p : Pc) : Prop := (b = true ∧ s.st ≤ 2 ∧ inP s p ∧ (p.data.size ≠ 0 ∨ p.fin = true) ∧ (p.fin = true → s.fi = 1)) ∧ (p.data.size ≠ 0 → comR s.pe [pcR p] = [pcR p])
instance (b : Bool) (s : Sn) (p : Pc) : Decidable (canS b s p) := by unfold canS; infer_instance
def fixS (s : Sn) : Sn := { s with st := folS s }
def sdS (b : Bool) (s : Sn) (p : Pc) : Sn :=
  if canS b s p then fixS { s with pe := if p.data.size ≠ 0 then remL s.pe (pcR p) else s.pe, fl := if p.data.size ≠ 0 then addL s.fl (pcR p) else s.fl, sent := if p.data.size ≠ 0 then max s.sent (pcR p).2 else s.sent, fi := if p.fin = true then 2 else s.fi } else s
def canA (b : Bool) (s : Sn) (p : Pc) : Prop := b = true ∧ s.st ≤ 2 ∧ inP s p
instance (b : Bool) (s : Sn) (p : Pc) : Decidable (canA b s p) := by unfold canA; infer_instance
def remLs (l c : List Rg) : List Rg := c.foldl remL l
def addLs (l c : List Rg) : List Rg := c.foldl addL l
def comS (s : Sn) (p : Pc) : List Rg := if p.data.size ≠ 0 then comR s.fl [pcR p] else []
def akS (b : Bool) (s : Sn) (p : Pc) : Sn :=
  if canA b s p then
    let ac := addLs s.ac (comS s p)
    fixS { s with fl := remLs s.fl (comS s p), ac := ac, fi := if p.fin = true ∧ s.fi = 2 then 3 else s.fi, rn := drR s.rn (if okR (-1) ac then gapR ac 0 else -1) }
  else s
def loS (b : Bool) (s : Sn) (p : Pc) : Sn :=
  if canA b s p then fixS { s with fl := remLs s.fl (comS s p), pe := addLs s.pe (comS s p), fi := if p.fin = true ∧ s.fi = 2 then 1 else s.fi } else s
def arS (b : Bool) (s : Sn) : Sn := if b = true ∧ s.st = 4 then { s with st := 5 } else s

theorem folS_in (s : Sn) : 0 ≤ folS s ∧ folS s ≤ 3 := by
  unfold folS
  split
  · omega
  · split
    · omega
    · split <;> omega
/-- What follows from the state that follows. -/
theorem folS_fix (s : Sn) : folS (fixS s) = folS s := by
  unfold fixS folS
  dsimp only
  by_cases h1 : s.fi = 3 ∧ s.rn.base = s.rn.en
  · rw [if_pos h1, if_pos h1]
  · rw [if_neg h1, if_neg h1]
    by_cases h2 : 1 < s.fi ∨ (s.fi = 1 ∧ s.st = 2)
    · rw [if_pos h2, if_pos (show 1 < s.fi ∨ (s.fi = 1 ∧ (2 : Int) = 2) by omega)]
    · rw [if_neg h2]
      by_cases h3 : 0 < s.sent ∨ (s.fi = 1 ∧ s.st = 1)
      · rw [if_pos h3, if_neg (by omega), if_pos (show 0 < s.sent ∨ (s.fi = 1 ∧ (1 : Int) = 1) by omega)]
      · rw [if_neg h3, if_neg (by omega), if_neg (by omega)]
theorem hasR_mem {l : List Rg} {r : Rg} (h : r ∈ l) (hr : r.1 < r.2) : hasR l (r.2 - 1) := ⟨r, h, by omega, by omega⟩
/-- The ranges end no later than their numbers. -/
theorem okR_high {l : List Rg} {B : Int} (h : okR (-1) l) : (∀ r ∈ l, r.2 ≤ B) ↔ ∀ n, hasR l n → n < B := by
  constructor
  · rintro h1 n ⟨r, hr, h2, h3⟩
    have := h1 r hr
    omega
  · intro h1 r hr
    have := h1 _ (hasR_mem hr (okR.below h r hr).2.1)
    omega
/-- All below the first gap is there. -/
theorem gapR_full (l : List Rg) : ∀ p n m, okR p l → n ≤ m → m < gapR l n → hasR l m := by
  induction l with
  | nil => intro p n m _ h1 h2; have h3 : m < n := h2; omega
  | cons x l ih =>
    intro p n m h h1 h2
    obtain ⟨a1, a2, a3, a4⟩ := h
    rw [hasR_cons]
    have h3 : m < gapR l (if x.1 ≤ n ∧ n < x.2 then x.2 else n) := h2
    by_cases hc : x.1 ≤ n ∧ n < x.2
    · rw [if_pos hc, gapR_low l x.2 x.2 a4 (Int.le_refl _)] at h3
      exact .inl ⟨by omega, h3⟩
    · rw [if_neg hc] at h3
      exact .inr (ih x.2 n m a4 h1 h3)
/-- The first gap is the first number that is not there. -/
theorem gapR_is {l : List Rg} {g : Int} (h : okR (-1) l) (h0 : 0 ≤ g) (h1 : ¬ hasR l g) (h2 : ∀ m, 0 ≤ m → m < g → hasR l m) : gapR l 0 = g := by
  have a := gapR_ge l 0
  have b := gapR_free l (-1) 0 h
  by_cases h3 : gapR l 0 < g
  · exact absurd (h2 _ a h3) b
  · by_cases h4 : g < gapR l 0
    · exact absurd (gapR_full l (-1) 0 g h h0 h4) h1
    · omega
theorem addLs_ok (c : List Rg) : ∀ (l : List Rg) (p : Int), -1 ≤ p → okR (-1) l → okR p c → okR (-1) (addLs l c) ∧ ∀ n, hasR (addLs l c) n ↔ hasR l n ∨ hasR c n := joinS_has c
theorem remLs_ok (c : List Rg) : ∀ (l : List Rg) (p : Int), -1 ≤ p → okR (-1) l → okR p c → okR (-1) (remLs l c) ∧ ∀ n, hasR (remLs l c) n ↔ hasR l n ∧ ¬ hasR c n := by
  induction c with
  | nil => intro l p _ h _; exact ⟨h, fun n => ⟨fun h => ⟨h, hasR_nil n⟩, fun h => h.1⟩⟩
  | cons r c ih =>
    intro l p hp hl hc
    obtain ⟨hf, h4, h5⟩ := okR_fine hp hc
    obtain ⟨k1, k2⟩ := remL_ok hl hf
    obtain ⟨i1, i2⟩ := ih (remL l r) r.2 h5 k1 h4
    refine ⟨i1, fun n => ?_⟩
    show hasR (remLs (remL l r) c) n ↔ _
    rw [i2, k2, hasR_cons]
    constructor
    · rintro ⟨⟨a, b⟩, d⟩
      exact ⟨a, fun h => h.elim b d⟩
    · rintro ⟨a, b⟩
      exact ⟨⟨a, fun h => b (.inl h)⟩, fun h => b (.inr h)⟩
/-- What is in flight of a piece. -/
theorem comS_ok {s : Sn} {p : Pc} (hk : okR (-1) s.fl) (hp : inP s p) (he : s.rn.en ≤ 4611686018427387903) : okR (-1) (comS s p) ∧ ∀ n, hasR (comS s p) n ↔ hasR s.fl n ∧ p.off ≤ n ∧ n < p.off + p.data.size := by
  unfold comS
  obtain ⟨h0, h1, h2, _⟩ := hp
  split
  · rename_i hd
    have hf : okR (-1) [pcR p] := ⟨by show (-1 : Int) < p.off; omega, by show p.off < p.off + p.data.size; omega, by show p.off + (p.data.size : Int) ≤ _; omega, trivial⟩
    refine ⟨comR_ok _ hf s.fl (-1) (Int.le_refl _) hk, fun n => ?_⟩
    rw [comR_has, hasR_cons]
    exact ⟨fun h => ⟨h.1, h.2.resolve_right (hasR_nil n)⟩, fun h => ⟨h.1, .inl h.2⟩⟩
  · rename_i hd
    refine ⟨trivial, fun n => ⟨fun h => absurd h (hasR_nil n), fun h => ?_⟩⟩
    have : p.data.size = 0 := Decidable.not_not.1 hd
    omega
end Go.Proofs.Ytjohbfdifdjldaa.Num
