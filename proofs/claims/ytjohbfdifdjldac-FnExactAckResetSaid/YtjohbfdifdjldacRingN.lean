/-
  Plain facts about a ring of bytes: what it holds, writing, peeking, dropping. No program is imported.
-/
import Derived.Test.YtjohbfdifdjldacNum
namespace Go.Proofs.Ytjohbfdifdjldac.Num

/-- A ring. -/
structure Rn where
  size : Int
  base : Int
  en : Int
  cs : List Int
/-- A power of two from 1 to 64. -/
def powR (n : Int) : Prop := n = 1 ∨ n = 2 ∨ n = 4 ∨ n = 8 ∨ n = 16 ∨ n = 32 ∨ n = 64
instance (n : Int) : Decidable (powR n) := by unfold powR; infer_instance
theorem powR.lo {n : Int} (h : powR n) : 1 ≤ n ∧ n ≤ 64 := by unfold powR at h; omega
/-- All numbers fit an int. -/
def inRn (r : Rn) : Prop := (-9223372036854775808 ≤ r.size ∧ r.size ≤ 9223372036854775807) ∧ (-9223372036854775808 ≤ r.base ∧ r.base ≤ 9223372036854775807) ∧ -9223372036854775808 ≤ r.en ∧ r.en ≤ 9223372036854775807
/-- The ring is valid. -/
def okRn (r : Rn) : Prop := powR r.size ∧ (r.cs.length : Int) = r.size ∧ 0 ≤ r.base ∧ r.base ≤ r.en ∧ r.en - r.base ≤ r.size ∧ r.en ≤ 4611686018427387903 ∧ ∀ z ∈ r.cs, 0 ≤ z ∧ z ≤ 255
instance (r : Rn) : Decidable (okRn r) := by unfold okRn; infer_instance
def roomR (r : Rn) : Int := if okRn r then min (r.size - (r.en - r.base)) (4611686018427387903 - r.en) else 0
theorem roomR_in (r : Rn) : 0 ≤ roomR r ∧ roomR r ≤ 64 := by
  unfold roomR
  split
  · rename_i h
    have h1 := h.1.lo
    obtain ⟨_, _, h2, h3, h4, h5, _⟩ := h
    omega
  · omega
/-- The byte at a place. -/
def byt8 (d : ByteArray) (k : Nat) : Int := if h : k < d.size then (d[k].toNat : Int) else 0
theorem byt8_at (d : ByteArray) (k : Nat) (h : k < d.size) : byt8 d k = (d[k].toNat : Int) := by unfold byt8; rw [dif_pos h]
theorem byt8_in (d : ByteArray) (k : Nat) : 0 ≤ byt8 d k ∧ byt8 d k ≤ 255 := by
  unfold byt8
  split
  · rename_i h
    have := d[k].toNat_lt
    omega
  · omega
/-- The cell of a place. -/
def atR (sz k : Int) : Nat := (k % sz).toNat
theorem atR_lt {sz : Int} (h : 1 ≤ sz) (k : Int) : (atR sz k : Int) < sz ∧ (atR sz k : Int) = k % sz := by
  have h1 := Int.emod_nonneg k (show sz ≠ 0 by omega)
  have h2 := Int.emod_lt_of_pos k (show 0 < sz by omega)
  unfold atR
  omega
/-- k bytes of d are written from place e on. -/
def putR (sz e : Int) (d : ByteArray) (cs : List Int) : Nat → List Int
  | 0 => cs
  | k + 1 => (putR sz e d cs k).set (atR sz (e + k)) (byt8 d k)
theorem putR_len (sz e : Int) (d : ByteArray) (cs : List Int) (k : Nat) : (putR sz e d cs k).length = cs.length := by
  induction k with
  | zero => rfl
  | succ k ih => simp [putR, ih]
theorem set_all {P : Int → Prop} {l : List Int} (h : ∀ z ∈ l, P z) (k : Nat) {v : Int} (hv : P v) : ∀ z ∈ l.set k v, P z := by
  intro z hz
  rcases List.mem_or_eq_of_mem_set hz with h1 | h1
  · exact h z h1
  · rw [h1]; exact hv
theorem putR_all {P : Int → Prop} (hP : ∀ z, 0 ≤ z → z ≤ 255 → P z) (sz e : Int) (d : ByteArray) {cs : List Int} (h : ∀ z ∈ cs, P z) (k : Nat) : ∀ z ∈ putR sz e d cs k, P z := by
  induction k with
  | zero => exact h
  | succ k ih =>
    have hb := byt8_in d k
    exact set_all ih _ (hP _ hb.1 hb.2)
def cntW (r : Rn) (d : ByteArray) : Nat := (min (roomR r) (d.size : Int)).toNat
theorem cntW_in (r : Rn) (d : ByteArray) : (cntW r d : Int) = min (roomR r) (d.size : Int) := by
  have := (roomR_in r).1
  unfold cntW
  omega
def wrR (r : Rn) (d : ByteArray) : Rn := ⟨r.size, r.base, r.en + cntW r d, putR r.size r.en d r.cs (cntW r d)⟩
theorem cntW_bad {r : Rn} (d : ByteArray) (h : ¬ okRn r) : cntW r d = 0 := by
  have h1 := cntW_in r d
  have h2 : roomR r = 0 := if_neg h
  omega
theorem wrR_len (r : Rn) (d : ByteArray) : (wrR r d).cs.length = r.cs.length := putR_len _ _ _ _ _
theorem wrR_bad {r : Rn} (d : ByteArray) (h : ¬ okRn r) : wrR r d = r := by
  unfold wrR
  rw [cntW_bad d h]
  show (⟨r.size, r.base, r.en + 0, r.cs⟩ : Rn) = r
  rw [Int.add_zero]
theorem wrR_ok {r : Rn} (d : ByteArray) (h : okRn r) : okRn (wrR r d) := by
  have h1 := cntW_in r d
  have h2 : roomR r = min (r.size - (r.en - r.base)) (4611686018427387903 - r.en) := if_pos h
  obtain ⟨a1, a2, a3, a4, a5, a6, a7⟩ := h
  refine ⟨a1, ?_, a3, ?_, ?_, ?_, ?_⟩
  · show ((putR r.size r.en d r.cs (cntW r d)).length : Int) = r.size
    rw [putR_len]; exact a2
  · show r.base ≤ r.en + cntW r d; omega
  · show r.en + cntW r d - r.base ≤ r.size; omega
  · show r.en + cntW r d ≤ _; omega
  · exact putR_all (fun z h0 h1 => ⟨h0, h1⟩) _ _ _ a7 _
/-- The bytes of k places from o on. -/
def peekL (sz o : Int) (cs : List Int) : Nat → List UInt8
  | 0 => []
  | k + 1 => peekL sz o cs k ++ [UInt8.ofNat (cs.getD (atR sz (o + k)) 0).toNat]
theorem peekL_len (sz o : Int) (cs : List Int) (k : Nat) : (peekL sz o cs k).length = k := by
  induction k with
  | zero => rfl
  | succ k ih => simp [peekL, ih]
def canP (r : Rn) (o n : Int) : Prop := okRn r ∧ r.base ≤ o ∧ 0 ≤ n ∧ o ≤ r.en ∧ n ≤ r.en - o
instance (r : Rn) (o n : Int) : Decidable (canP r o n) := by unfold canP; infer_instance
def pkR (r : Rn) (o n : Int) : ByteArray := if canP r o n then ⟨(peekL r.size o r.cs n.toNat).toArray⟩ else ⟨#[]⟩
/-- k cells from place b on are set to 0. -/
def zerR (sz b : Int) (cs : List Int) : Nat → List Int
  | 0 => cs
  | k + 1 => (zerR sz b cs k).set (atR sz (b + k)) 0
theorem zerR_len (sz b : Int) (cs : List Int) (k : Nat) : (zerR sz b cs k).length = cs.length := by
  induction k with
  | zero => rfl
  | succ k ih => simp [zerR, ih]
theorem zerR_all {P : Int → Prop} (hP : P 0) (sz b : Int) {cs : List Int} (h : ∀ z ∈ cs, P z) (k : Nat) : ∀ z ∈ zerR sz b cs k, P z := by
  induction k with
  | zero => exact h
  | succ k ih => exact set_all ih _ hP
def canD (r : Rn) (t : Int) : Prop := okRn r ∧ r.base ≤ t ∧ t ≤ r.en
instance (r : Rn) (t : Int) : Decidable (canD r t) := by unfold canD; infer_instance
def drR (r : Rn) (t : Int) : Rn := if canD r t then ⟨r.size, t, r.en, zerR r.size r.base r.cs (t - r.base).toNat⟩ else r
theorem drR_len (r : Rn) (t : Int) : (drR r t).cs.length = r.cs.length := by
  unfold drR
  split
  · exact zerR_len _ _ _ _
  · rfl
theorem drR_ok {r : Rn} {t : Int} (h : okRn r) : okRn (drR r t) := by
  unfold drR
  split
  · rename_i hd
    obtain ⟨a1, a2, a3, a4, a5, a6, a7⟩ := h
    have h1 := hd.2.1
    have h2 := hd.2.2
    refine ⟨a1, ?_, ?_, h2, ?_, a6, zerR_all ⟨by omega, by omega⟩ _ _ a7 _⟩
    · show ((zerR r.size r.base r.cs _).length : Int) = r.size
      rw [zerR_len]; exact a2
    · show 0 ≤ t; omega
    · show r.en - t ≤ r.size; omega
  · exact h
def nwR (n : Int) : Rn := if powR n then ⟨n, 0, 0, List.replicate n.toNat 0⟩ else ⟨0, 0, 0, []⟩
theorem nwR_len (n : Int) : (nwR n).cs.length ≤ 64 := by
  unfold nwR
  split
  · rename_i h
    have := h.lo
    show (List.replicate n.toNat (0 : Int)).length ≤ 64
    rw [List.length_replicate]; omega
  · exact Nat.zero_le _
/-- All fields are equal. -/
def sameRn (r s : Rn) : Prop := r.size = s.size ∧ r.base = s.base ∧ r.en = s.en ∧ r.cs = s.cs
instance (r s : Rn) : Decidable (sameRn r s) := by unfold sameRn; infer_instance
theorem nwR_ok {n : Int} (h : powR n) : okRn (nwR n) := by
  have h1 := h.lo
  unfold nwR
  rw [if_pos h]
  refine ⟨h, ?_, Int.le_refl _, Int.le_refl _, ?_, show (0 : Int) ≤ 4611686018427387903 by decide, ?_⟩
  · show ((List.replicate n.toNat (0 : Int)).length : Int) = n
    rw [List.length_replicate]; omega
  · show (0 : Int) - 0 ≤ n; omega
  · intro z hz
    rw [List.eq_of_mem_replicate hz]
    omega
/-- Two places of a stretch that is no longer than the ring lie in cells of their own. -/
theorem atR_inj {sz a b : Int} (hs : 1 ≤ sz) (h1 : a ≤ b) (h2 : b - a < sz) (h : atR sz a = atR sz b) : a = b := by
  have ha := (atR_lt hs a).2
  have hb := (atR_lt hs b).2
  have hm : a % sz = b % sz := by rw [← ha, ← hb, h]
  have h3 : (b - a) % sz = 0 := Int.emod_eq_emod_iff_emod_sub_eq_zero.1 hm.symm
  rw [Int.emod_eq_of_lt (by omega) h2] at h3
  omega
/-- What is written elsewhere is not seen. -/
theorem putR_other {sz e : Int} (d : ByteArray) (cs : List Int) (p : Int) (k : Nat) (h : ∀ j : Nat, j < k → atR sz (e + j) ≠ atR sz p) : (putR sz e d cs k).getD (atR sz p) 0 = cs.getD (atR sz p) 0 := by
  induction k with
  | zero => rfl
  | succ k ih =>
    rw [← ih (fun j hj => h j (by omega))]
    show ((putR sz e d cs k).set (atR sz (e + k)) (byt8 d k)).getD (atR sz p) 0 = _
    have := h k (Nat.lt_succ_self k)
    simp [List.getD_eq_getElem?_getD, List.getElem?_set_ne this]
/-- What is written is seen. -/
theorem putR_seen {sz e : Int} (d : ByteArray) (cs : List Int) (hs : 1 ≤ sz) (hl : (cs.length : Int) = sz) (k i : Nat) (hi : i < k) (hk : (k : Int) ≤ sz) : (putR sz e d cs k).getD (atR sz (e + i)) 0 = byt8 d i := by
  induction k with
  | zero => omega
  | succ k ih =>
    show ((putR sz e d cs k).set (atR sz (e + k)) (byt8 d k)).getD (atR sz (e + i)) 0 = _
    by_cases h : i = k
    · subst h
      have hlt := (atR_lt hs (e + i)).1
      have hl2 := putR_len sz e d cs i
      simp [List.getD_eq_getElem?_getD, show atR sz (e + i) < (putR sz e d cs i).length by omega]
    · have hne : atR sz (e + k) ≠ atR sz (e + i) := fun h2 => by
        have := atR_inj (sz := sz) (a := e + i) (b := e + k) hs (by omega) (by omega) h2.symm
        omega
      rw [← ih (by omega) (by omega)]
      simp [List.getD_eq_getElem?_getD, List.getElem?_set_ne hne]
theorem peekL_congr {sz o : Int} {cs cs' : List Int} (k : Nat) (h : ∀ j : Nat, j < k → cs.getD (atR sz (o + j)) 0 = cs'.getD (atR sz (o + j)) 0) : peekL sz o cs k = peekL sz o cs' k := by
  induction k with
  | zero => rfl
  | succ k ih =>
    show peekL sz o cs k ++ _ = peekL sz o cs' k ++ _
    rw [ih (fun j hj => h j (by omega)), h k (Nat.lt_succ_self k)]
theorem peekL_app (sz o : Int) (cs : List Int) (a b : Nat) : peekL sz o cs (a + b) = peekL sz o cs a ++ peekL sz (o + a) cs b := by
  induction b with
  | zero => simp [peekL]
  | succ b ih =>
    show peekL sz o cs (a + b) ++ [_] = peekL sz o cs a ++ (peekL sz (o + a) cs b ++ [_])
    rw [ih, List.append_assoc, show o + ((a.add b : Nat) : Int) = o + (a : Int) + (b : Int) by show o + ((a + b : Nat) : Int) = _; omega]
/-- The bytes that were written are read. -/
theorem peekL_put {sz e : Int} (d : ByteArray) (cs : List Int) (hs : 1 ≤ sz) (hl : (cs.length : Int) = sz) (k : Nat) (hk : (k : Int) ≤ sz) (hd : k ≤ d.size) : ∀ i, i ≤ k → peekL sz e (putR sz e d cs k) i = d.data.toList.take i := by
  intro i
  induction i with
  | zero => intro _; rfl
  | succ i ih =>
    intro hi
    show peekL sz e (putR sz e d cs k) i ++ [_] = _
    rw [ih (by omega), putR_seen d cs hs hl k i (by omega) hk]
    have hds : i < d.data.toList.length := by show i < d.data.toList.length; rw [Array.length_toList]; exact Nat.lt_of_lt_of_le (show i < k by omega) hd
    rw [List.take_succ_eq_append_getElem hds]
    congr 1
    rw [byt8_at d i (by omega)]
    simp
    rfl
/-- Behind a write, the ring gives what it gave, and then what was written. -/
theorem peek_write {r : Rn} (d : ByteArray) (h : okRn r) : peekL r.size r.base (wrR r d).cs ((r.en - r.base).toNat + cntW r d) = peekL r.size r.base r.cs (r.en - r.base).toNat ++ d.data.toList.take (cntW r d) := by
  have hs := h.1.lo.1
  have h1 := cntW_in r d
  have h2 : roomR r = min (r.size - (r.en - r.base)) (4611686018427387903 - r.en) := if_pos h
  obtain ⟨a1, a2, a3, a4, a5, a6, a7⟩ := h
  have he : r.base + ((r.en - r.base).toNat : Int) = r.en := by omega
  rw [peekL_app, he]
  congr 1
  · refine peekL_congr _ (fun j hj => ?_)
    refine putR_other d r.cs _ _ (fun i hi h3 => ?_)
    have := atR_inj (sz := r.size) (a := r.base + j) (b := r.en + i) hs (by omega) (by omega) h3.symm
    omega
  · exact peekL_put d r.cs hs a2 _ (by omega) (by omega) _ (Nat.le_refl _)
end Go.Proofs.Ytjohbfdifdjldac.Num
