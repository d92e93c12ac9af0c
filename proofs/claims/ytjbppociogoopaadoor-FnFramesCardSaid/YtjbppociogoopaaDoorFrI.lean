/-
  Plain facts about how the program takes a frame apart: the fields of a kind, one after another. No program is imported.
-/
import Derived.Test.YtjbppociogoopaaDoorFrN2
namespace Go.Proofs.YtjbppociogoopaaDoor.Num

/-- The fields that a kind uses, in the order in which they are written: 0 stream, 1 offset, 2 data, 3 end, 4 code, 5 limit, 6 final size, 7 direction. -/
def fieldsK (k : Int) : List Int :=
  if k = 4 then [0, 4, 6] else if k = 5 then [0, 4] else if k = 8 then [0, 1, 2, 3] else if k = 17 ∨ k = 21 then [0, 5]
  else if k = 16 ∨ k = 20 then [5] else if k = 18 ∨ k = 22 then [5, 7] else []
theorem fieldsK_len (k : Int) : (fieldsK k).length ≤ 4 := by
  unfold fieldsK
  repeat' split
  all_goals simp
theorem fieldsK_in (k : Int) : ∀ i ∈ fieldsK k, 0 ≤ i ∧ i ≤ 7 := by
  unfold fieldsK
  repeat' split
  all_goals simp
theorem fieldsK_about (k : Int) : (fieldsK k).contains 0 = decide (aboutK k) := by
  have h0 : ∀ (p : Prop) [Decidable p] (q : Prop) [Decidable q], (p ↔ q) → decide p = decide q := fun p _ q _ h => by simp [h]
  rw [h0 (aboutK k) (k = 4 ∨ k = 5 ∨ k = 8 ∨ k = 17 ∨ k = 21) (Iff.rfl)]
  unfold fieldsK
  split
  · simp [*]
  split
  · simp [*]
  split
  · simp [*]
  split
  · rename_i h; rcases h with h | h <;> simp [h]
  split
  · rename_i h; rcases h with h | h <;> simp [h]
  split
  · rename_i h; rcases h with h | h <;> simp [h]
  · rw [decide_eq_false (by omega)]; rfl
/-- Is a field set? -/
def setK (f : Fr) (i : Int) : Bool :=
  if i = 0 then decide (f.stream ≠ 0) else if i = 1 then decide (f.offset ≠ 0) else if i = 2 then decide (f.data ≠ ⟨#[]⟩) else if i = 3 then f.fin
  else if i = 4 then decide (f.code ≠ 0) else if i = 5 then decide (f.limit ≠ 0) else if i = 6 then decide (f.final ≠ 0) else f.uni
/-- Is a field set that the kind doesn't use? -/
def unK (f : Fr) : Bool := [(0 : Int), 1, 2, 3, 4, 5, 6, 7].any fun i => !(fieldsK f.kind).contains i && setK f i
theorem unK_used (f : Fr) (h : isK f.kind) : unK f = false ↔ usedF f = f := by
  obtain ⟨k, st, ofs, dt, fi, co, li, fl, un⟩ := f
  rcases h with h | h | h | h | h | h | h | h | h <;> (simp only at h; subst h; simp [unK, fieldsK, setK, usedF, aboutK]; try grind)
theorem unK_hit (f : Fr) (i : Int) (h0 : 0 ≤ i) (h7 : i ≤ 7) (hn : (fieldsK f.kind).contains i = false) (hs : setK f i = true) : unK f = true := by
  unfold unK
  rw [List.any_eq_true]
  refine ⟨i, ?_, by simp only [hn, hs]; rfl⟩
  have : i = 0 ∨ i = 1 ∨ i = 2 ∨ i = 3 ∨ i = 4 ∨ i = 5 ∨ i = 6 ∨ i = 7 := by omega
  rcases this with rfl | rfl | rfl | rfl | rfl | rfl | rfl | rfl <;> decide
theorem unK_miss (f : Fr) (h : ∀ i : Int, 0 ≤ i → i ≤ 7 → (fieldsK f.kind).contains i = false → setK f i = false) : unK f = false := by
  unfold unK
  rw [List.any_eq_false]
  intro i hi
  have : 0 ≤ i ∧ i ≤ 7 := by
    simp only [List.mem_cons, List.not_mem_nil, or_false] at hi
    omega
  cases hc : (fieldsK f.kind).contains i with
  | true => simp
  | false => simp [h i this.1 this.2 hc]
/-- The type of a valid frame. -/
def typF (f : Fr) : Int :=
  if f.kind = 8 then (if f.offset = 0 then (if f.fin then 11 else 10) else (if f.fin then 15 else 14)) else if f.uni then f.kind + 1 else f.kind
/-- A field's bytes. -/
def wrK (f : Fr) (i : Int) : List UInt8 :=
  if i = 0 then encQ f.stream else if i = 1 then (if f.offset = 0 then [] else encQ f.offset) else if i = 2 then encQ (f.data.size : Int) ++ f.data.data.toList
  else if i = 4 then encQ f.code else if i = 5 then encQ f.limit else if i = 6 then encQ f.final else []
theorem encQ_small (n : Int) (h0 : 0 ≤ n) (h1 : n < 64) : encQ n = [UInt8.ofNat n.toNat] := by
  have h : qsz n = 1 := by
    rcases qsz_cases n with h | h | h | h | h <;> omega
  unfold encQ
  rw [h]
  obtain ⟨b, hb, hv, _⟩ := putQ_cons 1 n.toNat (Or.inl rfl) (by show dn 0 n.toNat < 64; rw [show dn 0 n.toNat = n.toNat from rfl]; omega)
  rw [hb]
  have e : fixB (1 - 1) n.toNat = [] := rfl
  rw [e]
  have : b.toNat = n.toNat := by rw [hv]; show 0 + dn 0 n.toNat = n.toNat; rw [show dn 0 n.toNat = n.toNat from rfl]; omega
  rw [← this]
  simp
theorem typF_in (f : Fr) (h : isK f.kind) : 0 ≤ typF f ∧ typF f < 64 := by
  unfold isK at h
  unfold typF
  repeat' split
  all_goals omega
theorem headF_typ (f : Fr) (h : okF f) : (headF f).flatMap encQ ++ (if f.kind = 8 then f.data.data.toList else []) = UInt8.ofNat (typF f).toNat :: (fieldsK f.kind).flatMap (wrK f) := by
  obtain ⟨hk, hu, _⟩ := h
  obtain ⟨k, st, ofs, dt, fi, co, li, fl, un⟩ := f
  have e4 : encQ 4 = [4] := rfl
  have e5 : encQ 5 = [5] := rfl
  have e10 : encQ 10 = [10] := rfl
  have e11 : encQ 11 = [11] := rfl
  have e14 : encQ 14 = [14] := rfl
  have e15 : encQ 15 = [15] := rfl
  have e16 : encQ 16 = [16] := rfl
  have e17 : encQ 17 = [17] := rfl
  have e18 : encQ 18 = [18] := rfl
  have e19 : encQ 19 = [19] := rfl
  have e20 : encQ 20 = [20] := rfl
  have e21 : encQ 21 = [21] := rfl
  have e22 : encQ 22 = [22] := rfl
  have e23 : encQ 23 = [23] := rfl
  rcases hk with h | h | h | h | h | h | h | h | h <;> (simp only at h; subst h; simp [usedF, aboutK] at hu)
  · have hn : un = false := by grind
    simp [headF, typF, fieldsK, wrK, hn, e4]
  · have hn : un = false := by grind
    simp [headF, typF, fieldsK, wrK, hn, e5]
  · by_cases h0 : ofs = 0 <;> cases fi <;> simp [headF, typF, fieldsK, wrK, h0, e10, e11, e14, e15]
  · have hn : un = false := by grind
    simp [headF, typF, fieldsK, wrK, hn, e16]
  · have hn : un = false := by grind
    simp [headF, typF, fieldsK, wrK, hn, e17]
  · cases un <;> simp [headF, typF, fieldsK, wrK, e18, e19]
  · have hn : un = false := by grind
    simp [headF, typF, fieldsK, wrK, hn, e20]
  · have hn : un = false := by grind
    simp [headF, typF, fieldsK, wrK, hn, e21]
  · cases un <;> simp [headF, typF, fieldsK, wrK, e22, e23]
theorem encF_fields (f : Fr) (h : okF f) : encF f = UInt8.ofNat (typF f).toNat :: (fieldsK f.kind).flatMap (wrK f) := by
  rw [encF_ok f h, headF_typ f h]
/-- The kind that a type is of. -/
def kinT (c : Nat) : Int := if 8 ≤ c ∧ c < 16 then 8 else if c = 18 ∨ c = 19 then 18 else if c = 22 ∨ c = 23 then 22 else c
/-- A number is put into its field. -/
def putK (g : Fr) (i x : Int) : Fr :=
  if i = 0 then { g with stream := x } else if i = 1 then { g with offset := x } else if i = 4 then { g with code := x } else if i = 5 then { g with limit := x }
  else if i = 6 then { g with final := x } else g
/-- A field is read at a place. -/
def rdK (c : Nat) (L : List UInt8) (i : Int) (g : Fr) (p : Nat) : Option (Fr × Nat) :=
  if i = 3 then some ({ g with fin := decide (c % 2 = 1) }, p)
  else if i = 7 then some ({ g with uni := decide (c % 2 = 1) }, p)
  else if i = 2 then
    (if c / 2 % 2 = 1 then
      match decL (L.drop p) with
      | none => none
      | some (x, k) => if x ≤ L.length - (p + k) then some ({ g with data := ⟨((L.drop (p + k)).take x).toArray⟩ }, p + k + x) else none
    else some ({ g with data := ⟨(L.drop p).toArray⟩ }, L.length))
  else if i = 1 ∧ c / 4 % 2 = 0 then some (g, p)
  else match decL (L.drop p) with
    | none => none
    | some (x, k) => some (putK g i x, p + k)
/-- The fields, one after another. -/
def rdAll (c : Nat) (L : List UInt8) : List Int → Fr → Nat → Option (Fr × Nat)
  | [], g, p => some (g, p)
  | i :: is, g, p => match rdK c L i g p with
    | none => none
    | some (g', p') => rdAll c L is g' p'
theorem isK_kin {c : Nat} (h : fieldsK (kinT c) ≠ []) : c = 4 ∨ c = 5 ∨ (8 ≤ c ∧ c < 16) ∨ (16 ≤ c ∧ c ≤ 23) := by
  unfold fieldsK kinT at h
  by_cases h1 : 8 ≤ c ∧ c < 16
  · exact Or.inr (Or.inr (Or.inl h1))
  by_cases h2 : 16 ≤ c ∧ c ≤ 23
  · exact Or.inr (Or.inr (Or.inr h2))
  by_cases h3 : c = 4 ∨ c = 5
  · omega
  exact absurd (by rw [if_neg h1, if_neg (by omega), if_neg (by omega)]; repeat rw [if_neg (by omega)]) h
theorem decF_fields (L : List UInt8) (a : Nat) (b : UInt8) (t : List UInt8) (h : L.drop a = b :: t) :
    decF (L.drop a) = match rdAll b.toNat L (fieldsK (kinT b.toNat)) { fr0 with kind := kinT b.toNat } (a + 1) with
      | none => none
      | some (g, p) => if okF g then some (g, p - a) else none := by
  have ht : L.drop (a + 1) = t := by rw [← List.tail_drop, h]; rfl
  have hd : ∀ k, L.drop (a + 1 + k) = t.drop k := fun k => by rw [← ht, List.drop_drop]
  have hl : L.length = a + 1 + t.length := by
    have := congrArg List.length h
    simp at this
    omega
  rw [h, decF_cons]
  generalize b.toNat = c
  by_cases hs : 8 ≤ c ∧ c < 16
  · rw [if_neg (by omega), if_pos hs]
    have hk : kinT c = 8 := by unfold kinT; rw [if_pos hs]
    rw [hk]
    have hf : fieldsK 8 = [0, 1, 2, 3] := rfl
    rw [hf]
    clear hf hk
    have hd2 : ∀ k, L.drop (a + (1 + k)) = t.drop k := fun k => by rw [← Nat.add_assoc, hd]
    have hz : ∀ k, L.length - (a + (1 + k)) = t.length - k := fun k => by omega
    have hp : ∀ k, a + (1 + k) - a = k + 1 := fun k => by omega
    have hq : L.length - a = t.length + 1 := by omega
    have hf : fr0 = ⟨0, 0, 0, ⟨#[]⟩, false, 0, 0, 0, false⟩ := rfl
    by_cases h4 : c / 4 % 2 = 1 <;> by_cases h2 : c / 2 % 2 = 1
    · cases d1 : decL t with
      | none => simp [rdAll, rdK, ht, d1, decS, readN, h4]
      | some p1 =>
        obtain ⟨x1, k1⟩ := p1
        cases d2 : decL (t.drop k1) with
        | none => simp [rdAll, rdK, ht, hd, d1, d2, decS, readN, h4]
        | some p2 =>
          obtain ⟨x2, k2⟩ := p2
          cases d3 : decL (t.drop (k1 + k2)) with
          | none => simp [rdAll, rdK, ht, hd2, d1, d2, d3, decS, readN, h4, h2, Nat.add_assoc]
          | some p3 =>
            obtain ⟨x3, k3⟩ := p3
            by_cases hx : x3 ≤ t.length - (k1 + (k2 + k3))
            · simp [rdAll, rdK, ht, hd2, hz, hp, hf, putK, sFr, chkF, d1, d2, d3, decS, readN, h4, h2, hx, Nat.add_assoc]
            · simp [rdAll, rdK, ht, hd2, hz, d1, d2, d3, decS, readN, h4, h2, hx, Nat.add_assoc]
    · cases d1 : decL t with
      | none => simp [rdAll, rdK, ht, d1, decS, readN, h4]
      | some p1 =>
        obtain ⟨x1, k1⟩ := p1
        cases d2 : decL (t.drop k1) with
        | none => simp [rdAll, rdK, ht, hd, d1, d2, decS, readN, h4]
        | some p2 =>
          obtain ⟨x2, k2⟩ := p2
          simp [rdAll, rdK, ht, hd2, hq, hf, putK, sFr, chkF, d1, d2, decS, readN, h4, h2, Nat.add_assoc]
    · have h4' : c / 4 % 2 = 0 := by omega
      cases d1 : decL t with
      | none => simp [rdAll, rdK, ht, d1, decS, readN, h4']
      | some p1 =>
        obtain ⟨x1, k1⟩ := p1
        cases d3 : decL (t.drop k1) with
        | none => simp [rdAll, rdK, ht, hd2, d1, d3, decS, readN, h4', h2, Nat.add_assoc]
        | some p3 =>
          obtain ⟨x3, k3⟩ := p3
          by_cases hx : x3 ≤ t.length - (k1 + k3)
          · simp [rdAll, rdK, ht, hd2, hz, hp, hf, putK, sFr, chkF, d1, d3, decS, readN, h4', h2, hx, Nat.add_assoc]
          · simp [rdAll, rdK, ht, hd2, hz, d1, d3, decS, readN, h4', h2, hx, Nat.add_assoc]
    · have h4' : c / 4 % 2 = 0 := by omega
      cases d1 : decL t with
      | none => simp [rdAll, rdK, ht, d1, decS, readN, h4']
      | some p1 =>
        obtain ⟨x1, k1⟩ := p1
        simp [rdAll, rdK, ht, hd2, hq, hf, putK, sFr, chkF, d1, decS, readN, h4', h2, Nat.add_assoc]
  · have hd2 : ∀ k, L.drop (a + (1 + k)) = t.drop k := fun k => by rw [← Nat.add_assoc, hd]
    have hp : ∀ k, a + (1 + k) - a = k + 1 := fun k => by omega
    have hf : fr0 = ⟨0, 0, 0, ⟨#[]⟩, false, 0, 0, 0, false⟩ := rfl
    rw [if_neg (show ¬ (8 ≤ c ∧ c < 16) from hs)]
    by_cases hbig : 23 < c
    · rw [if_pos hbig]
      have hk : kinT c = c := by unfold kinT; rw [if_neg hs, if_neg (by omega), if_neg (by omega)]
      have hn : fieldsK (c : Int) = [] := by unfold fieldsK; repeat rw [if_neg (by omega)]
      have hno : ¬ okF { fr0 with kind := (c : Int) } := fun h => by have := h.1; unfold isK at this; simp only at this; omega
      rw [hk, hn]
      simp [rdAll, hno]
    rw [if_neg hbig]
    by_cases hk : c = 4 ∨ c = 5 ∨ c = 16 ∨ c = 17 ∨ c = 18 ∨ c = 19 ∨ c = 20 ∨ c = 21 ∨ c = 22 ∨ c = 23
    · rcases hk with rfl | rfl | rfl | rfl | rfl | rfl | rfl | rfl | rfl | rfl
      · have hkc : kinT 4 = 4 := by decide
        have hfs : fieldsK 4 = [0, 4, 6] := by decide
        rw [hkc, hfs]
        clear hkc hfs
        cases d1 : decL t with
        | none => simp [rdAll, rdK, ht, d1, readN, cntK]
        | some p1 =>
          obtain ⟨x1, k1⟩ := p1
          cases d2 : decL (t.drop k1) with
          | none => simp [rdAll, rdK, ht, hd2, d1, d2, readN, cntK, Nat.add_assoc]
          | some p2 =>
            obtain ⟨x2, k2⟩ := p2
            cases d3 : decL (t.drop (k1 + k2)) with
            | none => simp [rdAll, rdK, ht, hd2, d1, d2, d3, readN, cntK, Nat.add_assoc]
            | some p3 =>
              obtain ⟨x3, k3⟩ := p3
              simp [rdAll, rdK, ht, hd2, hp, hf, putK, nFr, chkF, d1, d2, d3, readN, cntK, Nat.add_assoc]
      · have hkc : kinT 5 = 5 := by decide
        have hfs : fieldsK 5 = [0, 4] := by decide
        rw [hkc, hfs]
        clear hkc hfs
        cases d1 : decL t with
        | none => simp [rdAll, rdK, ht, d1, readN, cntK]
        | some p1 =>
          obtain ⟨x1, k1⟩ := p1
          cases d2 : decL (t.drop k1) with
          | none => simp [rdAll, rdK, ht, hd2, d1, d2, readN, cntK, Nat.add_assoc]
          | some p2 =>
            obtain ⟨x2, k2⟩ := p2
            simp [rdAll, rdK, ht, hd2, hp, hf, putK, nFr, chkF, d1, d2, readN, cntK, Nat.add_assoc]
      · have hkc : kinT 16 = 16 := by decide
        have hfs : fieldsK 16 = [5] := by decide
        rw [hkc, hfs]
        clear hkc hfs
        cases d1 : decL t with
        | none => simp [rdAll, rdK, ht, d1, readN, cntK]
        | some p1 =>
          obtain ⟨x1, k1⟩ := p1
          simp [rdAll, rdK, ht, hp, hf, putK, nFr, chkF, d1, readN, cntK, Nat.add_assoc]
      · have hkc : kinT 17 = 17 := by decide
        have hfs : fieldsK 17 = [0, 5] := by decide
        rw [hkc, hfs]
        clear hkc hfs
        cases d1 : decL t with
        | none => simp [rdAll, rdK, ht, d1, readN, cntK]
        | some p1 =>
          obtain ⟨x1, k1⟩ := p1
          cases d2 : decL (t.drop k1) with
          | none => simp [rdAll, rdK, ht, hd2, d1, d2, readN, cntK, Nat.add_assoc]
          | some p2 =>
            obtain ⟨x2, k2⟩ := p2
            simp [rdAll, rdK, ht, hd2, hp, hf, putK, nFr, chkF, d1, d2, readN, cntK, Nat.add_assoc]
      · have hkc : kinT 18 = 18 := by decide
        have hfs : fieldsK 18 = [5, 7] := by decide
        rw [hkc, hfs]
        clear hkc hfs
        cases d1 : decL t with
        | none => simp [rdAll, rdK, ht, d1, readN, cntK]
        | some p1 =>
          obtain ⟨x1, k1⟩ := p1
          simp [rdAll, rdK, ht, hp, hf, putK, nFr, chkF, d1, readN, cntK, Nat.add_assoc]
      · have hkc : kinT 19 = 18 := by decide
        have hfs : fieldsK 18 = [5, 7] := by decide
        rw [hkc, hfs]
        clear hkc hfs
        cases d1 : decL t with
        | none => simp [rdAll, rdK, ht, d1, readN, cntK]
        | some p1 =>
          obtain ⟨x1, k1⟩ := p1
          simp [rdAll, rdK, ht, hp, hf, putK, nFr, chkF, d1, readN, cntK, Nat.add_assoc]
      · have hkc : kinT 20 = 20 := by decide
        have hfs : fieldsK 20 = [5] := by decide
        rw [hkc, hfs]
        clear hkc hfs
        cases d1 : decL t with
        | none => simp [rdAll, rdK, ht, d1, readN, cntK]
        | some p1 =>
          obtain ⟨x1, k1⟩ := p1
          simp [rdAll, rdK, ht, hp, hf, putK, nFr, chkF, d1, readN, cntK, Nat.add_assoc]
      · have hkc : kinT 21 = 21 := by decide
        have hfs : fieldsK 21 = [0, 5] := by decide
        rw [hkc, hfs]
        clear hkc hfs
        cases d1 : decL t with
        | none => simp [rdAll, rdK, ht, d1, readN, cntK]
        | some p1 =>
          obtain ⟨x1, k1⟩ := p1
          cases d2 : decL (t.drop k1) with
          | none => simp [rdAll, rdK, ht, hd2, d1, d2, readN, cntK, Nat.add_assoc]
          | some p2 =>
            obtain ⟨x2, k2⟩ := p2
            simp [rdAll, rdK, ht, hd2, hp, hf, putK, nFr, chkF, d1, d2, readN, cntK, Nat.add_assoc]
      · have hkc : kinT 22 = 22 := by decide
        have hfs : fieldsK 22 = [5, 7] := by decide
        rw [hkc, hfs]
        clear hkc hfs
        cases d1 : decL t with
        | none => simp [rdAll, rdK, ht, d1, readN, cntK]
        | some p1 =>
          obtain ⟨x1, k1⟩ := p1
          simp [rdAll, rdK, ht, hp, hf, putK, nFr, chkF, d1, readN, cntK, Nat.add_assoc]
      · have hkc : kinT 23 = 22 := by decide
        have hfs : fieldsK 22 = [5, 7] := by decide
        rw [hkc, hfs]
        clear hkc hfs
        cases d1 : decL t with
        | none => simp [rdAll, rdK, ht, d1, readN, cntK]
        | some p1 =>
          obtain ⟨x1, k1⟩ := p1
          simp [rdAll, rdK, ht, hp, hf, putK, nFr, chkF, d1, readN, cntK, Nat.add_assoc]
    · have hkk : kinT c = c := by unfold kinT; rw [if_neg hs, if_neg (by omega), if_neg (by omega)]
      have hn : fieldsK (c : Int) = [] := by unfold fieldsK; repeat rw [if_neg (by omega)]
      have hno : ¬ okF { fr0 with kind := (c : Int) } := fun h => by have := h.1; unfold isK at this; simp only at this; omega
      have hno2 : ∀ l m, chkF (nFr c l) m = none := fun l m => chkF_none m fun h => by
        have := h.1
        unfold nFr isK at this
        rw [if_neg (by omega), if_neg (by omega), if_neg (by omega), if_neg (by omega)] at this
        simp only at this
        omega
      rw [hkk, hn]
      simp only [rdAll, hno]
      cases readN (cntK c) t with
      | none => rfl
      | some p => simp [hno2]
end Go.Proofs.YtjbppociogoopaaDoor.Num
