/-
  Plain facts about how impl inserts: chunks ahead, chunks that are reached, chunks behind, and the bytes of the joined one. No program is imported.
-/
import Derived.Test.YtmmoedhfeaokgaaBufN
namespace Go.Proofs.Ytmmoedhfeaokgaa.Num

theorem okR.tail {a b : List Rg} : ∀ {p : Int}, okR p (a ++ b) → ∃ q, p ≤ q ∧ okR q b := by
  induction a with
  | nil => intro p h; exact ⟨p, Int.le_refl _, h⟩
  | cons x a ih =>
    intro p h
    obtain ⟨q, h1, h2⟩ := ih h.2.2.2
    have := h.1
    have := h.2.1
    exact ⟨q, by omega, h2⟩
theorem okR.sep {a b : List Rg} : ∀ {p : Int}, okR p (a ++ b) → ∀ x ∈ a, ∀ y ∈ b, x.2 < y.1 := by
  induction a with
  | nil => intro p _ x hx; cases hx
  | cons z a ih =>
    intro p h x hx y hy
    rcases List.mem_cons.1 hx with rfl | hx
    · exact (okR.below h.2.2.2 y (List.mem_append_right _ hy)).1
    · exact ih h.2.2.2 x hx y hy
theorem okR.up {q q' : Int} {b : List Rg} (h : okR q b) (hq : ∀ x ∈ b, q' < x.1) : okR q' b := by
  cases b with
  | nil => trivial
  | cons x b => exact ⟨hq x (List.mem_cons_self ..), h.2⟩
theorem okR.one {l : List Ch} : ∀ {p : Int}, okR p (l.map ckR) → ∀ i j (hi : i < j) (hj : j < l.length), (l[i]'(Nat.lt_trans hi hj)).off + (l[i]'(Nat.lt_trans hi hj)).data.size < l[j].off := by
  induction l with
  | nil => intro p _ i j _ hj; cases hj
  | cons x l ih =>
    intro p h i j hi hj
    cases j with
    | zero => omega
    | succ j =>
      cases i with
      | zero =>
        have hj' : j < l.length := Nat.lt_of_succ_lt_succ hj
        have := okR.below h.2.2.2 (ckR l[j]) (List.mem_map_of_mem (List.getElem_mem (Nat.lt_of_succ_lt_succ hj)))
        exact this.1
      | succ i => exact ih h.2.2.2 i j (by omega) (by simpa using hj)
theorem byteB_append (a b : List Ch) (n : Int) : byteB (a ++ b) n = if 0 ≤ byteB a n then byteB a n else byteB b n := by
  induction a with
  | nil => rfl
  | cons x a ih =>
    rw [List.cons_append]
    by_cases h : inC x n
    · have h2 : byteB (x :: a) n = atC x n := by show (if inC x n then _ else _) = _; rw [if_pos h]
      have h3 : byteB (x :: (a ++ b)) n = atC x n := by show (if inC x n then _ else _) = _; rw [if_pos h]
      rw [h2, h3, if_pos (show 0 ≤ atC x n from (bytD_in _ _).1)]
    · have h2 : byteB (x :: a) n = byteB a n := by show (if inC x n then _ else _) = _; rw [if_neg h]
      have h3 : byteB (x :: (a ++ b)) n = byteB (a ++ b) n := by show (if inC x n then _ else _) = _; rw [if_neg h]
      rw [h2, h3, ih]
theorem byteB_of (l : List Ch) (p : Int) (hp : -1 ≤ p) (h : okR p (l.map ckR)) (n : Int) : 0 ≤ byteB l n ↔ ∃ x ∈ l, x.off ≤ n ∧ n < x.off + x.data.size := by
  rw [byteB_has l p hp h n]
  constructor
  · rintro ⟨r, hr, h1, h2⟩
    obtain ⟨x, hx, rfl⟩ := List.mem_map.1 hr
    exact ⟨x, hx, h1, h2⟩
  · rintro ⟨x, hx, h1, h2⟩
    exact ⟨ckR x, List.mem_map_of_mem hx, h1, h2⟩
theorem byteB_neg (l : List Ch) (n : Int) (h : ¬ 0 ≤ byteB l n) : byteB l n = -1 := by
  rcases byteB_cases l n with h2 | h2 <;> omega

/-- A chunk that joins c and the chunks R. -/
structure Joins (c : Ch) (R : List Ch) (J : Ch) : Prop where
  lo : J.off ≤ c.off ∧ ∀ x ∈ R, J.off ≤ x.off
  lo1 : J.off = c.off ∨ ∃ x ∈ R, J.off = x.off
  hi : c.off + c.data.size ≤ J.off + J.data.size ∧ ∀ x ∈ R, x.off + x.data.size ≤ J.off + J.data.size
  hi1 : J.off + J.data.size = c.off + c.data.size ∨ ∃ x ∈ R, J.off + J.data.size = x.off + x.data.size
  at_ : ∀ n, inC J n → atC J n = if 0 ≤ byteB R n then byteB R n else if inC c n then atC c n else 0
theorem Joins.none (c : Ch) : Joins c [] c :=
  ⟨⟨Int.le_refl _, fun x hx => by cases hx⟩, Or.inl rfl, ⟨Int.le_refl _, fun x hx => by cases hx⟩, Or.inl rfl, fun n h => by
    rw [if_neg (by show ¬ (0 : Int) ≤ -1; omega), if_pos h]⟩

/-- What impl inserts is what was to be inserted. -/
theorem insI {b : Bf} {o : Int} {d : ByteArray} (hc : canI b o d) (L1 R L2 : List Ch) (hl : b.chs = L1 ++ (R ++ L2)) (c : Ch) (hc0 : c.off = max o b.next) (hc1 : c.off + c.data.size = o + d.size)
    (hcd : ∀ n, c.off ≤ n → n < o + d.size → atC c n = bytD d (n - o).toNat)
    (h1 : ∀ x ∈ L1, x.off + x.data.size < c.off) (h2 : ∀ x ∈ R, x.off ≤ c.off + c.data.size ∧ c.off ≤ x.off + x.data.size) (h3 : ∀ x ∈ L2, c.off + c.data.size < x.off)
    (J : Ch) (hJ : Joins c R J) : insB b o d = ⟨b.next, L1 ++ J :: L2⟩ := by
  have ja := hJ.lo.1
  have jb := hJ.lo.2
  have jd := hJ.hi.1
  have je := hJ.hi.2
  have jg := hJ.at_
  have hok := hc.1.1
  have hn0 := hc.1.2.1
  have hn1 := hc.1.2.2
  have hmax := hc.2.2.2.1
  have hnew := hc.2.2.2.2
  have hdz := hc.2.1
  have hcz : c.off < c.off + c.data.size := by omega
  rw [hl, List.map_append, List.map_append] at hok
  have hokA : okR (b.next - 1) (L1.map ckR) := hok.prefix
  obtain ⟨q, hq1, hq⟩ := okR.tail hok
  have hokR : okR q (R.map ckR) := hq.prefix
  obtain ⟨q2, hq3, hq2⟩ := okR.tail hq
  have sep1 : ∀ x ∈ L1, ∀ y ∈ R, x.off + x.data.size < y.off := fun x hx y hy => okR.sep hok (ckR x) (List.mem_map_of_mem hx) (ckR y) (List.mem_append_left _ (List.mem_map_of_mem hy))
  have sep2 : ∀ x ∈ R, ∀ y ∈ L2, x.off + x.data.size < y.off := fun x hx y hy => okR.sep hq (ckR x) (List.mem_map_of_mem hx) (ckR y) (List.mem_map_of_mem hy)
  have inR : ∀ x ∈ R, q < x.off ∧ x.off < x.off + x.data.size ∧ x.off + (x.data.size : Int) ≤ 4611686018427387903 := fun x hx => okR.below hokR (ckR x) (List.mem_map_of_mem hx)
  have hJlo : b.next ≤ J.off := by
    rcases hJ.lo1 with e | ⟨x, hx, e⟩
    · omega
    · have := inR x hx
      omega
  have hJhi : J.off + (J.data.size : Int) ≤ 4611686018427387903 := by
    rcases hJ.hi1 with e | ⟨x, hx, e⟩
    · omega
    · have := inR x hx
      omega
  have hJ1 : ∀ x ∈ L1, x.off + x.data.size < J.off := fun x hx => by
    rcases hJ.lo1 with e | ⟨y, hy, e⟩
    · have := h1 x hx
      omega
    · have := sep1 x hx y hy
      omega
  have hJ2 : ∀ x ∈ L2, J.off + J.data.size < x.off := fun x hx => by
    rcases hJ.hi1 with e | ⟨y, hy, e⟩
    · have := h3 x hx
      omega
    · have := sep2 y hy x hx
      omega
  have hJokT : okR (J.off - 1) ((J :: L2).map ckR) := ⟨by show J.off - 1 < J.off; omega, by show J.off < J.off + J.data.size; omega, hJhi, okR.up hq2 fun r hr => by
    obtain ⟨x, hx, rfl⟩ := List.mem_map.1 hr
    exact hJ2 x hx⟩
  have hNok : okR (b.next - 1) ((L1 ++ J :: L2).map ckR) := by
    rw [List.map_append]
    refine okR_append hokA hJokT (fun r hr => ?_) (by omega)
    obtain ⟨x, hx, rfl⟩ := List.mem_map.1 hr
    have := hJ1 x hx
    show x.off + (x.data.size : Int) ≤ J.off - 1
    omega
  refine bf_uniq (insB_ok b o d hc.1) ⟨hNok, hc.1.2⟩ (insB_next b o d) fun n => ?_
  show _ = byteB (L1 ++ J :: L2) n
  rw [insB_byte b o d hc n, hl, byteB_append L1, byteB_append R, byteB_append L1]
  by_cases hA : 0 ≤ byteB L1 n
  · simp only [if_pos hA]
  · simp only [if_neg hA]
    have hJn : byteB (J :: L2) n = if inC J n then atC J n else byteB L2 n := rfl
    rw [hJn]
    have hBR := byteB_of R q (by omega) hokR n
    have hB2 := byteB_of L2 q2 (by omega) hq2 n
    by_cases hj : inC J n
    · rw [if_pos hj, jg n hj]
      obtain ⟨_, hj1, hj2⟩ := hj
      by_cases hR : 0 ≤ byteB R n
      · simp only [if_pos hR]
      · simp only [if_neg hR]
        have h2n : ¬ 0 ≤ byteB L2 n := fun h => by
          obtain ⟨x, hx, ha, hb⟩ := hB2.1 h
          have := hJ2 x hx
          omega
        rw [if_neg h2n]
        have hin : c.off ≤ n ∧ n < c.off + c.data.size := by
          constructor
          · by_cases hlt : c.off ≤ n
            · exact hlt
            · exfalso
              rcases hJ.lo1 with e | ⟨x, hx, e⟩
              · omega
              · exact hR (hBR.2 ⟨x, hx, by omega, by have := (h2 x hx).2; omega⟩)
          · by_cases hlt : n < c.off + c.data.size
            · exact hlt
            · exfalso
              rcases hJ.hi1 with e | ⟨x, hx, e⟩
              · omega
              · exact hR (hBR.2 ⟨x, hx, by have := (h2 x hx).1; omega, by omega⟩)
        rw [if_pos ⟨by omega, by omega⟩, if_pos ⟨by omega, hin.1, hin.2⟩, hcd n hin.1 (by omega)]
    · rw [if_neg hj]
      have hR : ¬ 0 ≤ byteB R n := fun h => by
        obtain ⟨x, hx, ha, hb⟩ := hBR.1 h
        have h4 := jb x hx
        have h5 := je x hx
        exact hj ⟨by omega, by omega, by omega⟩
      simp only [if_neg hR]
      by_cases h2n : 0 ≤ byteB L2 n
      · simp only [if_pos h2n]
      · rw [if_neg h2n, byteB_neg L2 n h2n, if_neg]
        intro hh
        exact hj ⟨by omega, by omega, by omega⟩

/-- A list of chunks, parted where c reaches. -/
theorem reach_parts {l : List Ch} {p : Int} (h : okR p (l.map ckR)) (lo hi : Nat) (o e : Int) (hlh : lo ≤ hi) (hhl : hi ≤ l.length)
    (hlo : lo < l.length → ∀ hx : lo < l.length, ¬ l[lo].off + l[lo].data.size < o) (hhi : ∀ hx : hi < l.length, e < l[hi].off) :
    l = l.take lo ++ ((l.drop lo).take (hi - lo) ++ l.drop hi) ∧ (∀ x ∈ (l.drop lo).take (hi - lo), o ≤ x.off + x.data.size) ∧ (∀ x ∈ l.drop hi, e < x.off) := by
  refine ⟨?_, fun x hx => ?_, fun x hx => ?_⟩
  · have e1 : l.drop hi = (l.drop lo).drop (hi - lo) := by rw [List.drop_drop]; congr 1; omega
    rw [e1, List.take_append_drop, List.take_append_drop]
  · obtain ⟨j, hj, rfl⟩ := List.getElem_of_mem hx
    rw [List.length_take, List.length_drop] at hj
    rw [List.getElem_take, List.getElem_drop]
    have h0 := hlo (by omega) (by omega)
    cases j with
    | zero => simp only [Nat.add_zero]; omega
    | succ j =>
      have h1 := okR.one h lo (lo + (j + 1)) (by omega) (by omega)
      have h2 := okR.below h (ckR l[lo + (j + 1)]) (List.mem_map_of_mem (List.getElem_mem (by omega)))
      have h3 : l[lo + (j + 1)].off < l[lo + (j + 1)].off + (l[lo + (j + 1)].data.size : Int) := h2.2.1
      omega
  · obtain ⟨j, hj, rfl⟩ := List.getElem_of_mem hx
    rw [List.length_drop] at hj
    rw [List.getElem_drop]
    have h0 := hhi (by omega)
    cases j with
    | zero => simpa using h0
    | succ j =>
      have h1 := okR.one h hi (hi + (j + 1)) (by omega) (by omega)
      have h2 := okR.below h (ckR l[hi]) (List.mem_map_of_mem (List.getElem_mem (by omega)))
      have h3 : l[hi].off < l[hi].off + (l[hi].data.size : Int) := h2.2.1
      omega

/-- Bytes laid over a list from a place on. -/
def putL (L : List UInt8) (k : Nat) (d : ByteArray) : List UInt8 := L.take k ++ (d.data.toList ++ L.drop (k + d.size))
theorem putL_len {L : List UInt8} {k : Nat} {d : ByteArray} (h : k + d.size ≤ L.length) : (putL L k d).length = L.length := by
  have hd : d.data.toList.length = d.size := by simp
  unfold putL
  rw [List.length_append, List.length_append, List.length_take, List.length_drop, hd]
  omega
def bytL (M : List UInt8) (i : Nat) : Int := ((M.getD i 0).toNat : Int)
theorem putL_at {L : List UInt8} {k : Nat} {d : ByteArray} (h : k + d.size ≤ L.length) (j : Nat) : bytL (putL L k d) j = if k ≤ j ∧ j < k + d.size then bytD d (j - k) else bytL L j := by
  have hd : d.data.toList.length = d.size := by simp
  have htk : (L.take k).length = k := by rw [List.length_take]; omega
  unfold bytL bytD putL
  rw [List.getD_eq_getElem?_getD, List.getElem?_append, htk, List.getElem?_append, hd, List.getElem?_take, List.getElem?_drop]
  by_cases h1 : j < k
  · rw [if_pos h1, if_pos h1, if_neg (by omega), List.getD_eq_getElem?_getD]
  · rw [if_neg h1]
    by_cases h2 : j < k + d.size
    · rw [if_pos (by omega), if_pos ⟨by omega, h2⟩, List.getD_eq_getElem?_getD]
    · rw [if_neg (by omega), if_neg (by omega), List.getD_eq_getElem?_getD, show k + d.size + (j - k - d.size) = j by omega]
/-- The bytes of c, and over them those of the chunks R. -/
structure FillI (c : Ch) (beg : Int) (N : Nat) (R : List Ch) (M : List UInt8) : Prop where
  len : M.length = N
  byte : ∀ i, i < N → bytL M i = if 0 ≤ byteB R (beg + i) then byteB R (beg + i) else if inC c (beg + i) then atC c (beg + i) else 0
theorem FillI.start (c : Ch) (beg : Int) (N : Nat) (h0 : 0 ≤ beg) (h1 : beg ≤ c.off) (h2 : c.off + c.data.size ≤ beg + N) : FillI c beg N [] (putL (List.replicate N 0) (c.off - beg).toNat c.data) := by
  have hl : (c.off - beg).toNat + c.data.size ≤ (List.replicate N (0 : UInt8)).length := by rw [List.length_replicate]; omega
  refine ⟨by rw [putL_len hl, List.length_replicate], fun i hi => ?_⟩
  have hz : byteB [] (beg + (i : Int)) = -1 := rfl
  rw [putL_at hl, hz, if_neg (show ¬ (0 : Int) ≤ -1 by decide)]
  by_cases hc : (c.off - beg).toNat ≤ i ∧ i < (c.off - beg).toNat + c.data.size
  · rw [if_pos hc, if_pos ⟨by omega, by omega, by omega⟩]
    unfold atC
    rw [show (beg + (i : Int) - c.off).toNat = i - (c.off - beg).toNat by omega]
  · rw [if_neg hc, if_neg (fun h => hc ⟨by have := h.2.1; omega, by have := h.2.2; omega⟩)]
    unfold bytL
    rw [List.getD_eq_getElem?_getD, List.getElem?_replicate, if_pos hi]
    rfl
theorem FillI.step {c : Ch} {beg : Int} {N : Nat} {R : List Ch} {M : List UInt8} (h : FillI c beg N R M) (x : Ch) (p : Int) (hp : -1 ≤ p) (hok : okR p ((R ++ [x]).map ckR)) (h0 : 0 ≤ beg) (h1 : beg ≤ x.off) (h2 : x.off + x.data.size ≤ beg + N) :
    FillI c beg N (R ++ [x]) (putL M (x.off - beg).toNat x.data) := by
  have hl : (x.off - beg).toNat + x.data.size ≤ M.length := by rw [h.len]; omega
  refine ⟨by rw [putL_len hl, h.len], fun i hi => ?_⟩
  rw [putL_at hl, byteB_append, h.byte i hi]
  have hx : byteB [x] (beg + i) = if inC x (beg + i) then atC x (beg + i) else -1 := rfl
  rw [hx]
  rw [List.map_append] at hok
  by_cases hc : (x.off - beg).toNat ≤ i ∧ i < (x.off - beg).toNat + x.data.size
  · have hin : inC x (beg + i) := ⟨by omega, by omega, by omega⟩
    have hR : ¬ 0 ≤ byteB R (beg + i) := fun hh => by
      obtain ⟨y, hy, ha, hb⟩ := (byteB_of R p hp hok.prefix _).1 hh
      have h5 : y.off + (y.data.size : Int) < x.off := okR.sep hok (ckR y) (List.mem_map_of_mem hy) (ckR x) (by simp)
      have := hin.2.1
      omega
    rw [if_pos hc, if_neg hR, if_pos hin]
    unfold atC
    rw [show (beg + (i : Int) - x.off).toNat = i - (x.off - beg).toNat by omega, if_pos (bytD_in _ _).1]
  · have hin : ¬ inC x (beg + i) := fun h => hc ⟨by have := h.2.1; omega, by have := h.2.2; omega⟩
    rw [if_neg hc, if_neg hin]
    by_cases hR : 0 ≤ byteB R (beg + i)
    · simp only [if_pos hR]
    · simp only [if_neg hR]
      rw [if_neg (show ¬ (0 : Int) ≤ -1 by decide)]
theorem FillI.joins {c : Ch} {beg : Int} {N : Nat} {R : List Ch} {M : List UInt8} (h : FillI c beg N R M)
    (ja : beg ≤ c.off ∧ ∀ x ∈ R, beg ≤ x.off) (jc : beg = c.off ∨ ∃ x ∈ R, beg = x.off) (jd : c.off + c.data.size ≤ beg + N ∧ ∀ x ∈ R, x.off + x.data.size ≤ beg + N)
    (jf : beg + N = c.off + c.data.size ∨ ∃ x ∈ R, beg + N = x.off + x.data.size) : Joins c R ⟨beg, ⟨M.toArray⟩⟩ := by
  have hs : (⟨M.toArray⟩ : ByteArray).size = N := by
    show M.toArray.size = N
    simp [h.len]
  refine ⟨ja, jc, ?_, ?_, ?_⟩
  · rw [hs]; exact jd
  · rw [hs]; exact jf
  · rintro n ⟨h0, h1, h2⟩
    rw [hs] at h2
    have h1' : beg ≤ n := h1
    have h2' : n < beg + N := h2
    have := h.byte (n - beg).toNat (by omega)
    rw [show beg + (((n - beg).toNat : Nat) : Int) = n by omega] at this
    exact this
/-- The first and the last of the chunks that are reached. -/
theorem joins_ends {R : List Ch} {p : Int} (h : okR p (R.map ckR)) (h0 : 0 < R.length) (x : Ch) (hx : x ∈ R) :
    R[0].off ≤ x.off ∧ x.off + (x.data.size : Int) ≤ (R[R.length - 1]'(by omega)).off + (R[R.length - 1]'(by omega)).data.size := by
  obtain ⟨j, hj, rfl⟩ := List.getElem_of_mem hx
  have hb : ∀ k (hk : k < R.length), R[k].off < R[k].off + (R[k].data.size : Int) := fun k hk => (okR.below h (ckR R[k]) (List.mem_map_of_mem (List.getElem_mem hk))).2.1
  constructor
  · by_cases hj0 : j = 0
    · subst hj0; exact Int.le_refl _
    · have := okR.one h 0 j (by omega) hj
      have := hb 0 h0
      omega
  · by_cases hj1 : j = R.length - 1
    · subst hj1; exact Int.le_refl _
    · have := okR.one h j (R.length - 1) (by omega) (by omega)
      have := hb (R.length - 1) (by omega)
      omega
end Go.Proofs.Ytmmoedhfeaokgaa.Num
