/-
  Plain facts about buffers: chunks of bytes with gaps between them. No program is imported.
  Plain facts about what is inserted into a buffer: sizes and counts.
  Plain facts about the buffers that are drawn: they stay small.
  Plain facts that the law on buffers wants: ends only rise, and what stands where behind an insert.
-/
import Derived.Test.YtjohbfdifdjldacRangeN
namespace Go.Proofs.Ytjohbfdifdjldac.Num

/-- A chunk: its place and its bytes. -/
structure Ch where
  off : Int
  data : ByteArray
/-- A buffer. -/
structure Bf where
  next : Int
  chs : List Ch
theorem Ch.ext' {a b : Ch} (h0 : a.off = b.off) (h1 : a.data = b.data) : a = b := by
  cases a; cases b; simp_all
instance : DecidableEq Ch := fun a b => decidable_of_iff (a.off = b.off ∧ a.data = b.data) ⟨fun ⟨h0, h1⟩ => Ch.ext' h0 h1, fun h => by subst h; exact ⟨rfl, rfl⟩⟩
/-- The range of a chunk. -/
def ckR (c : Ch) : Rg := (c.off, c.off + c.data.size)
/-- The buffer is valid. -/
def okB (b : Bf) : Prop := okR (b.next - 1) (b.chs.map ckR) ∧ 0 ≤ b.next ∧ b.next ≤ 4611686018427387903
instance (b : Bf) : Decidable (okB b) := by unfold okB; infer_instance
/-- A chunk has a place, and its byte there. -/
def inC (c : Ch) (o : Int) : Prop := 0 ≤ c.off ∧ c.off ≤ o ∧ o < c.off + c.data.size
instance (c : Ch) (o : Int) : Decidable (inC c o) := by unfold inC; infer_instance
def bytD (d : ByteArray) (k : Nat) : Int := ((d.data.toList.getD k 0).toNat : Int)
def atC (c : Ch) (o : Int) : Int := bytD c.data (o - c.off).toNat
/-- The byte at a place, of the first chunk that has it. -/
def byteB : List Ch → Int → Int
  | [], _ => -1
  | c :: l, o => if inC c o then atC c o else byteB l o
theorem bytD_in (d : ByteArray) (k : Nat) : 0 ≤ bytD d k ∧ bytD d k ≤ 255 := by
  unfold bytD
  have := (d.data.toList.getD k 0).toNat_lt
  omega
theorem byteB_cases (l : List Ch) (o : Int) : byteB l o = -1 ∨ (0 ≤ byteB l o ∧ byteB l o ≤ 255) := by
  induction l with
  | nil => exact Or.inl rfl
  | cons c l ih =>
    unfold byteB
    split
    · exact Or.inr (bytD_in _ _)
    · exact ih
theorem byteB_has (l : List Ch) : ∀ p, -1 ≤ p → okR p (l.map ckR) → ∀ o, 0 ≤ byteB l o ↔ hasR (l.map ckR) o := by
  induction l with
  | nil =>
    intro p _ _ o
    exact ⟨fun h => by simp [byteB] at h, fun h => absurd h (hasR_nil o)⟩
  | cons c l ih =>
    intro p hp h o
    rw [List.map_cons, hasR_cons]
    have h1 : p < c.off := h.1
    have h2 : c.off < c.off + c.data.size := h.2.1
    have h3 := h.2.2.2
    unfold byteB
    by_cases hi : inC c o
    · rw [if_pos hi]
      exact ⟨fun _ => Or.inl ⟨hi.2.1, hi.2.2⟩, fun _ => (bytD_in _ _).1⟩
    · rw [if_neg hi, ih (c.off + c.data.size) (by omega) h3 o]
      refine ⟨Or.inr, fun h => h.resolve_left fun hh => hi ⟨by omega, hh.1, hh.2⟩⟩
theorem byteB_none (l : List Ch) (p : Int) (hp : -1 ≤ p) (h : okR p (l.map ckR)) (o : Int) (hn : ¬ hasR (l.map ckR) o) : byteB l o = -1 := by
  rcases byteB_cases l o with h1 | h1
  · exact h1
  · exact absurd ((byteB_has l p hp h o).1 h1.1) hn
theorem bytD_ext {a b : ByteArray} (hs : a.size = b.size) (h : ∀ k, k < a.size → bytD a k = bytD b k) : a = b := by
  apply ByteArray.ext
  apply Array.toList_inj.mp
  have hl : a.data.toList.length = a.size := by simp
  have hl2 : b.data.toList.length = b.size := by simp
  apply List.ext_getElem (by omega)
  intro k h1 h2
  have := h k (by omega)
  unfold bytD at this
  rw [List.getD_eq_getElem?_getD, List.getD_eq_getElem?_getD, List.getElem?_eq_getElem h1, List.getElem?_eq_getElem h2] at this
  simp only [Option.getD_some] at this
  exact UInt8.toNat_inj.1 (by omega)
/-- A valid list of chunks is told by its bytes. -/
theorem byteB_uniq (l : List Ch) : ∀ (m : List Ch) (p q : Int), -1 ≤ p → -1 ≤ q → okR p (l.map ckR) → okR q (m.map ckR) → (∀ o, byteB l o = byteB m o) → l = m := by
  induction l with
  | nil =>
    intro m p q hp hq _ hm h
    have := okR.uniq (l := []) (m := m.map ckR) (p := p) (q := q) trivial hm fun n => by
      rw [← byteB_has m q hq hm n, ← h n]
      exact ⟨fun hh => absurd hh (hasR_nil n), fun hh => by simp [byteB] at hh⟩
    cases m with
    | nil => rfl
    | cons c m => simp at this
  | cons c l ih =>
    intro m p q hp hq hl hm h
    have hR := okR.uniq hl hm fun n => by rw [← byteB_has (c :: l) p hp hl n, ← byteB_has m q hq hm n, h n]
    cases m with
    | nil => simp at hR
    | cons d m =>
      rw [List.map_cons, List.map_cons] at hR
      injection hR with h1 h2
      have e1 : c.off = d.off := congrArg Prod.fst h1
      have e2 : c.off + c.data.size = d.off + d.data.size := congrArg Prod.snd h1
      have hp1 : p < c.off := hl.1
      have hc2 : c.off < c.off + c.data.size := hl.2.1
      have hl3 : okR (c.off + c.data.size) (l.map ckR) := hl.2.2.2
      have hm3 : okR (d.off + d.data.size) (m.map ckR) := hm.2.2.2
      have hd : c.data = d.data := by
        refine bytD_ext (by omega) fun k hk => ?_
        have := h (c.off + k)
        unfold byteB at this
        rw [if_pos (show inC c (c.off + k) from ⟨by omega, by omega, by omega⟩), if_pos (show inC d (c.off + k) from ⟨by omega, by omega, by omega⟩)] at this
        unfold atC at this
        rw [show (c.off + (k : Int) - c.off).toNat = k by omega, show (c.off + (k : Int) - d.off).toNat = k by omega] at this
        exact this
      have hcd : c = d := Ch.ext' e1 hd
      subst hcd
      congr 1
      refine ih m (c.off + c.data.size) (c.off + c.data.size) (by omega) (by omega) hl3 hm3 fun o => ?_
      by_cases hi : inC c o
      · rw [byteB_none l _ (by omega) hl3 o (fun hh => by have := okR.above hl3 o hh; have := hi.2.2; omega), byteB_none m _ (by omega) hm3 o (fun hh => by have := okR.above hm3 o hh; have := hi.2.2; omega)]
      · have := h o
        unfold byteB at this
        rwa [if_neg hi, if_neg hi] at this
/-- A buffer is told by its place and its bytes. -/
theorem bf_uniq {a b : Bf} (ha : okB a) (hb : okB b) (hn : a.next = b.next) (h : ∀ o, byteB a.chs o = byteB b.chs o) : a = b := by
  have := byteB_uniq a.chs b.chs _ _ (by have := ha.2; omega) (by have := hb.2; omega) ha.1 hb.1 h
  cases a; cases b
  simp_all

/-- A chunk of a range, filled by a function. -/
def fillL (f : Int → Int) (lo : Int) (n : Nat) : List UInt8 := (List.range n).map fun (k : Nat) => UInt8.ofNat (f (lo + (k : Int))).toNat
def fillC (f : Int → Int) (r : Rg) : Ch := ⟨r.1, ⟨(fillL f r.1 (r.2 - r.1).toNat).toArray⟩⟩
theorem fillL_len (f : Int → Int) (lo : Int) (n : Nat) : (fillL f lo n).length = n := by simp [fillL]
theorem fillC_size (f : Int → Int) (r : Rg) : (fillC f r).data.size = (r.2 - r.1).toNat := by
  show (fillL f r.1 (r.2 - r.1).toNat).toArray.size = _
  simp [fillL_len]
theorem fillC_R (f : Int → Int) (r : Rg) (h : r.1 < r.2) : ckR (fillC f r) = r := by
  unfold ckR
  rw [fillC_size]
  show (r.1, r.1 + ((r.2 - r.1).toNat : Int)) = r
  rw [show r.1 + ((r.2 - r.1).toNat : Int) = r.2 by omega]
theorem fillC_at (f : Int → Int) (hf : ∀ n, 0 ≤ f n ∧ f n ≤ 255) (r : Rg) (o : Int) (h0 : r.1 ≤ o) (h1 : o < r.2) : atC (fillC f r) o = f o := by
  unfold atC bytD
  show (((fillL f r.1 (r.2 - r.1).toNat).getD (o - r.1).toNat 0).toNat : Int) = f o
  have hk : (o - r.1).toNat < (fillL f r.1 (r.2 - r.1).toNat).length := by rw [fillL_len]; omega
  rw [List.getD_eq_getElem?_getD, List.getElem?_eq_getElem hk]
  simp only [fillL, List.getElem_map, List.getElem_range, Option.getD_some]
  rw [show r.1 + ((o - r.1).toNat : Int) = o by omega, UInt8.toNat_ofNat']
  have := hf o
  omega
theorem fill_map (f : Int → Int) (L : List Rg) : ∀ p, okR p L → (L.map (fillC f)).map ckR = L := by
  induction L with
  | nil => intro _ _; rfl
  | cons r L ih =>
    intro p h
    rw [List.map_cons, List.map_cons, fillC_R f r h.2.1, ih _ h.2.2.2]
theorem byteB_fill (f : Int → Int) (hf : ∀ n, 0 ≤ f n ∧ f n ≤ 255) (L : List Rg) : ∀ p, -1 ≤ p → okR p L → ∀ o, (hasR L o → byteB (L.map (fillC f)) o = f o) ∧ (¬ hasR L o → byteB (L.map (fillC f)) o = -1) := by
  induction L with
  | nil => intro p _ _ o; exact ⟨fun h => absurd h (hasR_nil o), fun _ => rfl⟩
  | cons r L ih =>
    intro p hp h o
    have h1 := h.1
    have h2 := h.2.1
    have hsz := fillC_size f r
    have hin : inC (fillC f r) o ↔ r.1 ≤ o ∧ o < r.2 := by
      unfold inC
      rw [hsz]
      show 0 ≤ r.1 ∧ r.1 ≤ o ∧ o < r.1 + ((r.2 - r.1).toNat : Int) ↔ _
      omega
    rw [hasR_cons, List.map_cons]
    unfold byteB
    by_cases hi : inC (fillC f r) o
    · rw [if_pos hi]
      exact ⟨fun _ => fillC_at f hf r o (hin.1 hi).1 (hin.1 hi).2, fun hn => absurd (Or.inl (hin.1 hi)) hn⟩
    · rw [if_neg hi]
      have := ih r.2 (by omega) h.2.2.2 o
      exact ⟨fun hh => this.1 (hh.resolve_left fun x => hi (hin.2 x)), fun hn => this.2 fun x => hn (Or.inr x)⟩

/-- The bytes behind an insert: what stands, else what came. -/
def newB (l : List Ch) (o : Int) (d : ByteArray) (n : Int) : Int := if 0 ≤ byteB l n then byteB l n else bytD d (n - o).toNat
theorem newB_in (l : List Ch) (o : Int) (d : ByteArray) (n : Int) : 0 ≤ newB l o d n ∧ newB l o d n ≤ 255 := by
  unfold newB
  split
  · rcases byteB_cases l n with h | h <;> omega
  · exact bytD_in _ _
/-- Data may be inserted. -/
def canI (b : Bf) (o : Int) (d : ByteArray) : Prop := okB b ∧ d.size ≠ 0 ∧ 0 ≤ o ∧ o ≤ 4611686018427387903 - d.size ∧ b.next < o + d.size
instance (b : Bf) (o : Int) (d : ByteArray) : Decidable (canI b o d) := by unfold canI; infer_instance
def insB (b : Bf) (o : Int) (d : ByteArray) : Bf :=
  if canI b o d then ⟨b.next, (addR (max o b.next, o + d.size) (b.chs.map ckR)).map (fillC (newB b.chs o d))⟩ else b
theorem ins_okR {b : Bf} {o : Int} {d : ByteArray} (h : canI b o d) : okR (b.next - 1) (addR (max o b.next, o + d.size) (b.chs.map ckR)) :=
  addR_ok _ _ _ h.1.1 (by show b.next - 1 < max o b.next; omega) (by show max o b.next < o + d.size; have := h.2.1; have := h.2.2.2.2; omega) (by show o + (d.size : Int) ≤ _; have := h.2.2.2.1; omega)
theorem insB_ok (b : Bf) (o : Int) (d : ByteArray) (h : okB b) : okB (insB b o d) := by
  unfold insB
  split
  · rename_i hc
    refine ⟨?_, h.2⟩
    show okR (b.next - 1) (((addR (max o b.next, o + d.size) (b.chs.map ckR)).map (fillC (newB b.chs o d))).map ckR)
    rw [fill_map _ _ _ (ins_okR hc)]
    exact ins_okR hc
  · exact h
theorem insB_next (b : Bf) (o : Int) (d : ByteArray) : (insB b o d).next = b.next := by
  unfold insB
  split <;> rfl
/-- What stands at a place behind an insert. -/
theorem insB_byte (b : Bf) (o : Int) (d : ByteArray) (h : canI b o d) (n : Int) :
    byteB (insB b o d).chs n = if 0 ≤ byteB b.chs n then byteB b.chs n else if max o b.next ≤ n ∧ n < o + d.size then bytD d (n - o).toNat else -1 := by
  unfold insB
  rw [if_pos h]
  show byteB ((addR (max o b.next, o + d.size) (b.chs.map ckR)).map (fillC (newB b.chs o d))) n = _
  have hb := byteB_fill (newB b.chs o d) (newB_in _ _ _) _ (b.next - 1) (by have := h.1.2; omega) (ins_okR h) n
  have hh := addR_has (b.chs.map ckR) (b.next - 1) (max o b.next, o + d.size) h.1.1 (by show max o b.next < o + d.size; have := h.2.1; have := h.2.2.2.2; omega) n
  have hz := byteB_has b.chs (b.next - 1) (by have := h.1.2; omega) h.1.1 n
  by_cases h0 : 0 ≤ byteB b.chs n
  · rw [if_pos h0, hb.1 (hh.2 (Or.inl (hz.1 h0)))]
    unfold newB
    rw [if_pos h0]
  · rw [if_neg h0]
    by_cases h1 : max o b.next ≤ n ∧ n < o + d.size
    · rw [if_pos h1, hb.1 (hh.2 (Or.inr h1))]
      unfold newB
      rw [if_neg h0]
    · rw [if_neg h1]
      refine hb.2 fun hx => ?_
      rcases hh.1 hx with hx | hx
      · exact h0 (hz.2 hx)
      · exact h1 hx
/-- The ranges of the chunks. -/
def rgsB (b : Bf) : List Rg := if okB b then b.chs.map ckR else []
theorem rgsB_ok (b : Bf) : okR (-1) (rgsB b) := by
  unfold rgsB
  split
  · rename_i h
    exact okR.weaker h.1 (by have := h.2; omega)
  · trivial
/-- The bytes that are ready. -/
def rdyB (b : Bf) : Nat := if okB b then (match b.chs with | [] => 0 | c :: _ => if c.off = b.next then c.data.size else 0) else 0
/-- The end of the last chunk. -/
def endB (b : Bf) : Int := if okB b then (match b.chs.getLast? with | none => b.next | some c => c.off + c.data.size) else b.next
/-- Taking the first bytes: how many, and what is left. -/
def cntT (b : Bf) (m : Int) : Nat := min (rdyB b) (max m 0).toNat
def dropT (b : Bf) (n : Nat) : Bf :=
  if n = 0 then b else match b.chs with
  | [] => b
  | c :: l => ⟨b.next + n, if n = c.data.size then l else ⟨b.next + n, ⟨(c.data.data.toList.drop n).toArray⟩⟩ :: l⟩
def headT (b : Bf) (n : Nat) : ByteArray := if n = 0 then ⟨#[]⟩ else match b.chs with
  | [] => ⟨#[]⟩
  | c :: _ => ⟨(c.data.data.toList.take n).toArray⟩
theorem rdyB_pos {b : Bf} (h : rdyB b ≠ 0) : okB b ∧ ∃ c l, b.chs = c :: l ∧ c.off = b.next ∧ rdyB b = c.data.size := by
  unfold rdyB at h ⊢
  split at h
  · rename_i hok
    refine ⟨hok, ?_⟩
    split at h
    · exact absurd rfl h
    · rename_i c l hl
      split at h
      · rename_i hn
        rw [if_pos hok]
        exact ⟨c, l, hl, hn, if_pos hn⟩
      · exact absurd rfl h
  · exact absurd rfl h
theorem dropT_ok (b : Bf) (m : Int) (h : okB b) : okB (dropT b (cntT b m)) := by
  unfold dropT
  by_cases h0 : cntT b m = 0
  · rw [if_pos h0]; exact h
  · rw [if_neg h0]
    have hr : rdyB b ≠ 0 := by unfold cntT at h0; omega
    obtain ⟨_, c, l, hl, hn, hs⟩ := rdyB_pos hr
    have hle : cntT b m ≤ c.data.size := by unfold cntT; omega
    generalize cntT b m = n at *
    rw [hl]
    have h1 := h.1
    rw [hl] at h1
    have h3 : okR (c.off + c.data.size) (l.map ckR) := h1.2.2.2
    have hmx : c.off + (c.data.size : Int) ≤ 4611686018427387903 := h1.2.2.1
    have h20 := h.2
    refine ⟨?_, by show 0 ≤ b.next + (n : Int); omega, by show b.next + (n : Int) ≤ _; omega⟩
    show okR (b.next + (n : Int) - 1) (List.map ckR (if n = c.data.size then l else _ :: l))
    by_cases hnc : n = c.data.size
    · rw [if_pos hnc]
      exact okR.weaker h3 (by omega)
    · rw [if_neg hnc, List.map_cons]
      have hds : (⟨(c.data.data.toList.drop n).toArray⟩ : ByteArray).size = c.data.size - n := by
        show (c.data.data.toList.drop n).toArray.size = _
        simp
      unfold okR ckR
      rw [hds]
      refine ⟨by show b.next + (n : Int) - 1 < b.next + n; omega, by show b.next + (n : Int) < b.next + n + ((c.data.size - n : Nat) : Int); omega, by show b.next + (n : Int) + ((c.data.size - n : Nat) : Int) ≤ _; omega, ?_⟩
      show okR (b.next + (n : Int) + ((c.data.size - n : Nat) : Int)) (l.map ckR)
      rw [show b.next + (n : Int) + ((c.data.size - n : Nat) : Int) = c.off + c.data.size by omega]
      exact h3
theorem headT_size (b : Bf) (m : Int) : (headT b (cntT b m)).size = cntT b m := by
  unfold headT
  by_cases h0 : cntT b m = 0
  · rw [if_pos h0, h0]; rfl
  · rw [if_neg h0]
    have hr : rdyB b ≠ 0 := by unfold cntT at h0; omega
    obtain ⟨_, c, l, hl, hn, hs⟩ := rdyB_pos hr
    have hle : cntT b m ≤ c.data.size := by unfold cntT; omega
    rw [hl]
    show (c.data.data.toList.take (cntT b m)).toArray.size = _
    simp
    omega
/-- What is taken is what stands there. -/
theorem headT_byte (b : Bf) (m : Int) (i : Nat) (h : i < cntT b m) : bytD (headT b (cntT b m)) i = byteB b.chs (b.next + i) := by
  have h0 : cntT b m ≠ 0 := by omega
  have hr : rdyB b ≠ 0 := by unfold cntT at h0; omega
  obtain ⟨hok, c, l, hl, hn, hs⟩ := rdyB_pos hr
  have hle : cntT b m ≤ c.data.size := by unfold cntT; omega
  have h20 := hok.2
  unfold headT
  rw [if_neg h0, hl]
  unfold byteB
  rw [if_pos (show inC c (b.next + i) from ⟨by omega, by omega, by omega⟩)]
  unfold atC bytD
  show (((c.data.data.toList.take (cntT b m)).getD i 0).toNat : Int) = _
  rw [show (b.next + (i : Int) - c.off).toNat = i by omega]
  rw [List.getD_eq_getElem?_getD, List.getD_eq_getElem?_getD, List.getElem?_take_of_lt h]
end Go.Proofs.Ytjohbfdifdjldac.Num

namespace Go.Proofs.Ytjohbfdifdjldac.Num

theorem fillL_succ (f : Int → Int) (lo : Int) (n : Nat) : fillL f lo (n + 1) = fillL f lo n ++ [UInt8.ofNat (f (lo + (n : Int))).toNat] := by
  unfold fillL
  rw [List.range_succ, List.map_append]
  rfl
theorem cntR_cons (x : Rg) (l : List Rg) : cntR (x :: l) = (x.2 - x.1) + cntR l := rfl
theorem addR_eq (r x : Rg) (l : List Rg) : addR r (x :: l) = if x.2 < r.1 then x :: addR r l else if r.2 < x.1 then r :: x :: l else addR (min r.1 x.1, max r.2 x.2) l := by rw [addR]
theorem addR_nil (r : Rg) : addR r [] = [r] := by rw [addR]
/-- What is added counts once at most. -/
theorem addR_cnt (l : List Rg) : ∀ (p : Int) (r : Rg), okR p l → r.1 < r.2 → cntR (addR r l) ≤ cntR l + (r.2 - r.1) := by
  induction l with
  | nil => intro p r _ _; rw [addR_nil, cntR_cons]; simp [cntR]
  | cons x l ih =>
    intro p r h hr
    have h2 := h.2.1
    rw [addR_eq, cntR_cons]
    split
    · rw [cntR_cons]
      have := ih x.2 r h.2.2.2 hr
      omega
    · split
      · rw [cntR_cons, cntR_cons]
        omega
      · have := ih x.2 (min r.1 x.1, max r.2 x.2) h.2.2.2 (by show min r.1 x.1 < max r.2 x.2; omega)
        simp only at this
        omega
theorem addR_len (l : List Rg) : ∀ (r : Rg), (addR r l).length ≤ l.length + 1 := by
  induction l with
  | nil => intro r; rw [addR_nil]; simp
  | cons x l ih =>
    intro r
    rw [addR_eq]
    split
    · have := ih r
      simp only [List.length_cons]
      omega
    · split
      · simp
      · have := ih (min r.1 x.1, max r.2 x.2)
        simp only [List.length_cons]
        omega
theorem cntR_nonneg (l : List Rg) : ∀ p, okR p l → 0 ≤ cntR l := by
  induction l with
  | nil => intro p _; simp [cntR]
  | cons x l ih =>
    intro p h
    have h2 := h.2.1
    have := ih _ h.2.2.2
    rw [cntR_cons]
    omega
theorem cntR_mem (l : List Rg) : ∀ p, okR p l → ∀ r ∈ l, r.2 - r.1 ≤ cntR l := by
  induction l with
  | nil => intro p _ r hr; cases hr
  | cons x l ih =>
    intro p h r hr
    have h2 := h.2.1
    have h3 := cntR_nonneg l _ h.2.2.2
    rw [cntR_cons]
    rcases List.mem_cons.1 hr with rfl | hr
    · omega
    · have := ih _ h.2.2.2 r hr
      omega
/-- The bytes of all chunks. -/
def sumC : List Ch → Int
  | [] => 0
  | c :: l => c.data.size + sumC l
theorem sumC_nonneg (l : List Ch) : 0 ≤ sumC l := by
  induction l with
  | nil => simp [sumC]
  | cons c l ih => simp only [sumC]; omega
theorem sumC_mem (l : List Ch) : ∀ c ∈ l, (c.data.size : Int) ≤ sumC l := by
  induction l with
  | nil => intro c hc; cases hc
  | cons x l ih =>
    intro c hc
    have := sumC_nonneg l
    simp only [sumC]
    rcases List.mem_cons.1 hc with rfl | hc
    · omega
    · have := ih c hc
      omega
theorem sumC_cnt (l : List Ch) : cntR (l.map ckR) = sumC l := by
  induction l with
  | nil => rfl
  | cons c l ih =>
    rw [List.map_cons, cntR_cons, ih]
    simp only [sumC, ckR]
    omega
theorem sumC_fill (f : Int → Int) (L : List Rg) : ∀ p, okR p L → sumC (L.map (fillC f)) = cntR L := by
  intro p h
  rw [← sumC_cnt, fill_map f L p h]
/-- Every place of a range that is new lies in the data. -/
theorem ins_place {b : Bf} {o : Int} {d : ByteArray} (h : canI b o d) {r : Rg} (hr : r ∈ addR (max o b.next, o + d.size) (b.chs.map ckR)) {n : Int} (h0 : r.1 ≤ n) (h1 : n < r.2) (hn : byteB b.chs n < 0) : 0 ≤ n - o ∧ n - o < d.size := by
  have hh := (addR_has (b.chs.map ckR) (b.next - 1) (max o b.next, o + d.size) h.1.1 (by show max o b.next < o + d.size; have := h.2.1; have := h.2.2.2.2; omega) n).1 ⟨r, hr, h0, h1⟩
  rcases hh with hh | hh
  · have := (byteB_has b.chs (b.next - 1) (by have := h.1.2; omega) h.1.1 n).2 hh
    omega
  · have h2 : max o b.next ≤ n := hh.1
    have h3 : n < o + d.size := hh.2
    omega
/-- What the inserted ranges hold: few bytes, within the numbers. -/
theorem ins_small {b : Bf} {o : Int} {d : ByteArray} (h : canI b o d) {r : Rg} (hr : r ∈ addR (max o b.next, o + d.size) (b.chs.map ckR)) : 0 ≤ r.1 ∧ r.1 < r.2 ∧ r.2 ≤ 4611686018427387903 ∧ r.2 - r.1 ≤ sumC b.chs + d.size := by
  have hok := ins_okR h
  have h1 := okR.below hok r hr
  have h2 := cntR_mem _ _ hok r hr
  have h3 := addR_cnt (b.chs.map ckR) (b.next - 1) (max o b.next, o + d.size) h.1.1 (by show max o b.next < o + d.size; have := h.2.1; have := h.2.2.2.2; omega)
  rw [sumC_cnt] at h3
  have h4 := h.1.2.1
  simp only at h3
  omega
end Go.Proofs.Ytjohbfdifdjldac.Num

namespace Go.Proofs.Ytjohbfdifdjldac.Num

theorem insB_sum (b : Bf) (o : Int) (d : ByteArray) (h : okB b) : sumC (insB b o d).chs ≤ sumC b.chs + d.size := by
  unfold insB
  split
  · rename_i hc
    show sumC ((addR (max o b.next, o + d.size) (b.chs.map ckR)).map (fillC (newB b.chs o d))) ≤ _
    rw [sumC_fill _ _ _ (ins_okR hc)]
    have h3 := addR_cnt (b.chs.map ckR) (b.next - 1) (max o b.next, o + d.size) h.1 (by show max o b.next < o + d.size; have := hc.2.1; have := hc.2.2.2.2; omega)
    rw [sumC_cnt] at h3
    simp only at h3
    omega
  · omega
theorem insB_len2 (b : Bf) (o : Int) (d : ByteArray) : (insB b o d).chs.length ≤ b.chs.length + 1 := by
  unfold insB
  split
  · show (List.map _ _).length ≤ _
    rw [List.length_map]
    have := addR_len (b.chs.map ckR) (max o b.next, o + d.size)
    rw [List.length_map] at this
    exact this
  · omega
theorem dropT_sum (b : Bf) (n : Nat) : sumC (dropT b n).chs ≤ sumC b.chs := by
  unfold dropT
  split
  · omega
  · cases h : b.chs with
    | nil => simp [h]
    | cons c l =>
      simp only
      split
      · simp only [sumC]; omega
      · simp only [sumC]
        have : (⟨(c.data.data.toList.drop n).toArray⟩ : ByteArray).size = c.data.data.toList.length - n := by
          show (c.data.data.toList.drop n).toArray.size = _
          simp
        have h2 : c.data.size = c.data.data.toList.length := by simp
        omega
theorem dropT_len2 (b : Bf) (n : Nat) : (dropT b n).chs.length ≤ b.chs.length := by
  unfold dropT
  split
  · omega
  · cases h : b.chs with
    | nil => simp [h]
    | cons c l =>
      simp only
      split <;> simp
theorem okB_off {b : Bf} (h : okB b) : ∀ c ∈ b.chs, 0 ≤ c.off ∧ c.off ≤ 4611686018427387903 := by
  intro c hc
  have h1 := okR.below h.1 (ckR c) (List.mem_map_of_mem hc)
  have h2 : b.next - 1 < c.off := h1.1
  have h3 : c.off < c.off + c.data.size := h1.2.1
  have h4 : c.off + (c.data.size : Int) ≤ 4611686018427387903 := h1.2.2
  have h5 := h.2
  omega
theorem sumC_append (a b : List Ch) : sumC (a ++ b) = sumC a + sumC b := by
  induction a with
  | nil => simp [sumC]
  | cons c a ih => simp only [List.cons_append, sumC, ih]; omega
/-- What is known of a buffer that was drawn. -/
def smallB (b : Bf) : Prop := b.chs.length ≤ 10 ∧ sumC b.chs ≤ 100 ∧ (∀ c ∈ b.chs, -9223372036854775808 ≤ c.off ∧ c.off ≤ 9223372036854775807) ∧ -9223372036854775808 ≤ b.next ∧ b.next ≤ 9223372036854775807
theorem smallB.sizes {b : Bf} (h : smallB b) : ∀ c ∈ b.chs, c.data.size ≤ 100 := fun c hc => by
  have h1 := sumC_mem b.chs c hc
  have h2 := h.2.1
  omega
theorem okB_small {b : Bf} (h : okB b) (hl : b.chs.length ≤ 10) (hs : sumC b.chs ≤ 100) : smallB b :=
  ⟨hl, hs, fun c hc => by have := okB_off h c hc; omega, by have := h.2; omega, by have := h.2; omega⟩
end Go.Proofs.Ytjohbfdifdjldac.Num

namespace Go.Proofs.Ytjohbfdifdjldac.Num

theorem last_max (l : List Ch) : ∀ p, okR p (l.map ckR) → ∀ c ∈ l, ∀ z, l.getLast? = some z → c.off + (c.data.size : Int) ≤ z.off + z.data.size := by
  induction l with
  | nil => intro p _ c hc; cases hc
  | cons x l ih =>
    intro p h c hc z hz
    have h3 : okR (x.off + x.data.size) (l.map ckR) := h.2.2.2
    cases l with
    | nil =>
      simp at hz
      obtain rfl := List.mem_singleton.1 hc
      rw [hz]
      exact Int.le_refl _
    | cons y l =>
      rw [List.getLast?_cons_cons] at hz
      rcases List.mem_cons.1 hc with rfl | hc
      · have hzm : z ∈ y :: l := List.mem_of_getLast? hz
        have h4 := okR.below h3 (ckR z) (List.mem_map_of_mem hzm)
        have h5 : c.off + (c.data.size : Int) < z.off := h4.1
        omega
      · exact ih _ h3 c hc z hz
/-- No chunk ends behind the end. -/
theorem endB_max {b : Bf} (h : okB b) : ∀ c ∈ b.chs, c.off + (c.data.size : Int) ≤ endB b := by
  intro c hc
  unfold endB
  rw [if_pos h]
  cases hz : b.chs.getLast? with
  | none =>
    rw [List.getLast?_eq_none_iff] at hz
    rw [hz] at hc
    cases hc
  | some z => exact last_max b.chs _ h.1 c hc z hz
theorem endB_ge {b : Bf} (h : okB b) : b.next ≤ endB b := by
  unfold endB
  rw [if_pos h]
  cases hz : b.chs.getLast? with
  | none => exact Int.le_refl _
  | some z =>
    have h4 := okR.below h.1 (ckR z) (List.mem_map_of_mem (List.mem_of_getLast? hz))
    have h5 : b.next - 1 < z.off := h4.1
    have h6 : z.off < z.off + z.data.size := h4.2.1
    show b.next ≤ z.off + (z.data.size : Int)
    omega
/-- An insert never lowers the end. -/
theorem end_ins {b : Bf} {o : Int} {d : ByteArray} (h : okB b) : endB b ≤ endB (insB b o d) := by
  by_cases hc : canI b o d
  · have hy := insB_ok b o d h
    cases hz : b.chs.getLast? with
    | none =>
      have e : endB b = b.next := by unfold endB; rw [if_pos h, hz]
      rw [e]
      have := endB_ge hy
      rw [insB_next] at this
      exact this
    | some z =>
      have hzm := List.mem_of_getLast? hz
      have e : endB b = z.off + z.data.size := by unfold endB; rw [if_pos h, hz]
      have h4 := okR.below h.1 (ckR z) (List.mem_map_of_mem hzm)
      have h6 : z.off < z.off + (z.data.size : Int) := h4.2.1
      have hb : 0 ≤ byteB b.chs (endB b - 1) := (byteB_has b.chs _ (by have := h.2; omega) h.1 _).2 ⟨ckR z, List.mem_map_of_mem hzm, by show z.off ≤ endB b - 1; omega, by show endB b - 1 < z.off + z.data.size; omega⟩
      have hb2 : 0 ≤ byteB (insB b o d).chs (endB b - 1) := by
        rw [insB_byte b o d hc, if_pos hb]
        exact hb
      obtain ⟨r, hr, h0, h1⟩ := (byteB_has _ _ (by have := hy.2; omega) hy.1 _).1 hb2
      obtain ⟨c, hcm, rfl⟩ := List.mem_map.1 hr
      have h7 := endB_max hy c hcm
      have h8 : endB b - 1 < c.off + (c.data.size : Int) := h1
      omega
  · rw [show insB b o d = b from if_neg hc]
    exact Int.le_refl _
/-- What stands at a place behind an insert, as the law reckons it. -/
theorem ins_want {b : Bf} {o n : Int} {d : ByteArray} (h : okB b) (hn : n ≤ 4611686018427387000) (hd : d.size ≤ 100) :
    byteB (insB b o d).chs n = if byteB b.chs n < 0 ∧ b.next ≤ n ∧ 0 ≤ o ∧ o ≤ n ∧ n < o + d.size then bytD d (n - o).toNat else byteB b.chs n := by
  have hcs := byteB_cases b.chs n
  by_cases hq : byteB b.chs n < 0 ∧ b.next ≤ n ∧ 0 ≤ o ∧ o ≤ n ∧ n < o + d.size
  · rw [if_pos hq]
    have hc : canI b o d := ⟨h, by omega, by omega, by omega, by omega⟩
    rw [insB_byte b o d hc, if_neg (by omega), if_pos ⟨by omega, by omega⟩]
  · rw [if_neg hq]
    by_cases hc : canI b o d
    · rw [insB_byte b o d hc]
      by_cases h0 : 0 ≤ byteB b.chs n
      · rw [if_pos h0]
      · rw [if_neg h0]
        have h3 := hc.2.2.1
        rw [if_neg (by omega)]
        omega
    · rw [show insB b o d = b from if_neg hc]
end Go.Proofs.Ytjohbfdifdjldac.Num
