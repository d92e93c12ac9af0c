/-
  Plain facts about frames. No program is imported.
-/
import Derived.Test.YtjbppociogoopaaDoorQuic
namespace Go.Proofs.YtjbppociogoopaaDoor.Num

/-- A frame. -/
structure Fr where
  kind : Int
  stream : Int
  offset : Int
  data : ByteArray
  fin : Bool
  code : Int
  limit : Int
  final : Int
  uni : Bool
theorem Fr.ext' {a b : Fr} (h0 : a.kind = b.kind) (h1 : a.stream = b.stream) (h2 : a.offset = b.offset) (h3 : a.data = b.data) (h4 : a.fin = b.fin) (h5 : a.code = b.code) (h6 : a.limit = b.limit) (h7 : a.final = b.final) (h8 : a.uni = b.uni) : a = b := by
  cases a; cases b; simp_all
instance : DecidableEq Fr := fun a b => decidable_of_iff (a.kind = b.kind ∧ a.stream = b.stream ∧ a.offset = b.offset ∧ a.data = b.data ∧ a.fin = b.fin ∧ a.code = b.code ∧ a.limit = b.limit ∧ a.final = b.final ∧ a.uni = b.uni)
  ⟨fun ⟨h0, h1, h2, h3, h4, h5, h6, h7, h8⟩ => Fr.ext' h0 h1 h2 h3 h4 h5 h6 h7 h8, fun h => by subst h; exact ⟨rfl, rfl, rfl, rfl, rfl, rfl, rfl, rfl, rfl⟩⟩
/-- The zero value. -/
def fr0 : Fr := ⟨0, 0, 0, ⟨#[]⟩, false, 0, 0, 0, false⟩
/-- The greatest number. -/
def maxQ : Int := 4611686018427387903
/-- The kinds that are. -/
def isK (k : Int) : Prop := k = 4 ∨ k = 5 ∨ k = 8 ∨ k = 16 ∨ k = 17 ∨ k = 18 ∨ k = 20 ∨ k = 21 ∨ k = 22
instance (k : Int) : Decidable (isK k) := by unfold isK; infer_instance
/-- The kinds that name a stream. -/
def aboutK (k : Int) : Prop := k = 4 ∨ k = 5 ∨ k = 8 ∨ k = 17 ∨ k = 21
instance (k : Int) : Decidable (aboutK k) := by unfold aboutK; infer_instance
/-- A kind's name. -/
def kname (k : Int) : ByteArray :=
  if k = 4 then ⟨#[114, 101, 115, 101, 116]⟩ else if k = 5 then ⟨#[115, 116, 111, 112]⟩ else if k = 8 then ⟨#[115, 116, 114, 101, 97, 109]⟩
  else if k = 16 then ⟨#[109, 97, 120, 100, 97, 116, 97]⟩ else if k = 17 then ⟨#[109, 97, 120, 115, 116, 114, 101, 97, 109, 100, 97, 116, 97]⟩
  else if k = 18 then ⟨#[109, 97, 120, 115, 116, 114, 101, 97, 109, 115]⟩ else if k = 20 then ⟨#[100, 97, 116, 97, 98, 108, 111, 99, 107, 101, 100]⟩
  else if k = 21 then ⟨#[115, 116, 114, 101, 97, 109, 100, 97, 116, 97, 98, 108, 111, 99, 107, 101, 100]⟩
  else if k = 22 then ⟨#[115, 116, 114, 101, 97, 109, 115, 98, 108, 111, 99, 107, 101, 100]⟩ else ⟨#[]⟩
/-- The fields that a kind uses; all others are zero. -/
def usedF (f : Fr) : Fr where
  kind := f.kind
  stream := if aboutK f.kind then f.stream else 0
  offset := if f.kind = 8 then f.offset else 0
  data := if f.kind = 8 then f.data else ⟨#[]⟩
  fin := if f.kind = 8 then f.fin else false
  code := if f.kind = 4 ∨ f.kind = 5 then f.code else 0
  limit := if f.kind = 4 ∨ f.kind = 5 ∨ f.kind = 8 then 0 else f.limit
  final := if f.kind = 4 then f.final else 0
  uni := if f.kind = 18 ∨ f.kind = 22 then f.uni else false
/-- A number that can be written. -/
def inQ (n : Int) : Prop := 0 ≤ n ∧ n ≤ 4611686018427387903
instance (n : Int) : Decidable (inQ n) := by unfold inQ; infer_instance
/-- A valid frame. -/
def okF (f : Fr) : Prop := isK f.kind ∧ usedF f = f ∧ inQ f.stream ∧ inQ f.offset ∧ inQ f.code ∧ inQ f.limit ∧ inQ f.final ∧ f.data.size ≤ 400 ∧
  (f.kind = 8 → f.offset ≤ 4611686018427387903 - f.data.size) ∧ (f.kind = 18 ∨ f.kind = 22 → f.limit ≤ 1152921504606846976)
instance (f : Fr) : Decidable (okF f) := by unfold okF; infer_instance
/-- The numbers ahead of a frame's data. -/
def headF (f : Fr) : List Int :=
  if f.kind = 4 then [4, f.stream, f.code, f.final]
  else if f.kind = 5 then [5, f.stream, f.code]
  else if f.kind = 8 then (if f.offset = 0 then [(if f.fin then 11 else 10), f.stream, f.data.size] else [(if f.fin then 15 else 14), f.stream, f.offset, f.data.size])
  else if f.kind = 16 ∨ f.kind = 20 then [f.kind, f.limit]
  else if f.kind = 17 ∨ f.kind = 21 then [f.kind, f.stream, f.limit]
  else [(if f.uni then f.kind + 1 else f.kind), f.limit]
/-- A frame's bytes; none, where it isn't valid. -/
def encF (f : Fr) : List UInt8 := if okF f then encQs (headF f) ++ (if f.kind = 8 then f.data.data.toList else []) else []

/-- So many numbers, and how many bytes they take. -/
def readN : Nat → List UInt8 → Option (List Int × Nat)
  | 0, _ => some ([], 0)
  | n + 1, l => match decL l with
    | none => none
    | some (x, k) => match readN n (l.drop k) with
      | none => none
      | some (xs, m) => some ((x : Int) :: xs, k + m)
/-- A frame, if it is valid. -/
def chkF (f : Fr) (n : Nat) : Option (Fr × Nat) := if okF f then some (f, n) else none
/-- Of a stream frame behind its type: the stream's number and the offset. -/
def sFr (c : Nat) (l : List Int) (d : List UInt8) : Fr := ⟨8, l.getD 0 0, if c / 4 % 2 = 1 then l.getD 1 0 else 0, ⟨d.toArray⟩, decide (c % 2 = 1), 0, 0, 0, false⟩
/-- A stream frame behind its type. -/
def decS (c : Nat) (t : List UInt8) : Option (Fr × Nat) :=
  match readN (if c / 4 % 2 = 1 then 2 else 1) t with
  | none => none
  | some (l, m) =>
    if c / 2 % 2 = 1 then
      match decL (t.drop m) with
      | none => none
      | some (x, k) => if x ≤ t.length - (m + k) then chkF (sFr c l ((t.drop (m + k)).take x)) (m + k + x) else none
    else chkF (sFr c l (t.drop m)) t.length
/-- How many numbers follow a type. -/
def cntK (c : Nat) : Nat := if c = 4 then 3 else if c = 5 ∨ c = 17 ∨ c = 21 then 2 else 1
/-- A frame of another type, of its numbers. -/
def nFr (c : Nat) (l : List Int) : Fr :=
  if c = 4 then { fr0 with kind := 4, stream := l.getD 0 0, code := l.getD 1 0, final := l.getD 2 0 }
  else if c = 5 then { fr0 with kind := 5, stream := l.getD 0 0, code := l.getD 1 0 }
  else if c = 17 ∨ c = 21 then { fr0 with kind := c, stream := l.getD 0 0, limit := l.getD 1 0 }
  else if c = 19 ∨ c = 23 then { fr0 with kind := (c : Int) - 1, limit := l.getD 0 0, uni := true }
  else { fr0 with kind := c, limit := l.getD 0 0 }
/-- The frame at the beginning, and how many bytes it takes. -/
def decF : List UInt8 → Option (Fr × Nat)
  | [] => none
  | b :: t =>
    if 23 < b.toNat then none
    else if 8 ≤ b.toNat ∧ b.toNat < 16 then (decS b.toNat t).map fun x => (x.1, x.2 + 1)
    else match readN (cntK b.toNat) t with
      | none => none
      | some (l, m) => chkF (nFr b.toNat l) (m + 1)

theorem kname_some (k : Int) (h : isK k) : kname k ≠ ⟨#[]⟩ := by
  rcases h with rfl | rfl | rfl | rfl | rfl | rfl | rfl | rfl | rfl <;> exact fun e => absurd e (by decide)
theorem kname_none (k : Int) (h : ¬ isK k) : kname k = ⟨#[]⟩ := by
  unfold isK at h
  unfold kname
  repeat rw [if_neg (by omega)]
theorem usedF_used (f : Fr) : usedF (usedF f) = usedF f := by
  unfold usedF
  simp only [Fr.mk.injEq]
  refine ⟨trivial, ?_, ?_, ?_, ?_, ?_, ?_, ?_, ?_⟩ <;> split <;> rfl
/-- A frame's numbers fit. -/
theorem headF_fit (f : Fr) (h : okF f) : ∀ z ∈ headF f, qsz z ≠ 0 := by
  obtain ⟨hk, _, h1, h2, h3, h4, h5, h6, h7, h8⟩ := h
  unfold inQ at h1 h2 h3 h4 h5
  intro z hz
  rw [Ne, qsz_zero]
  unfold headF at hz
  unfold isK at hk
  split at hz
  · simp at hz; omega
  split at hz
  · simp at hz; omega
  split at hz
  · split at hz
    · simp at hz; rcases hz with hz | hz | hz
      · split at hz <;> omega
      · omega
      · omega
    · simp at hz; rcases hz with hz | hz | hz | hz
      · split at hz <;> omega
      · omega
      · omega
      · omega
  split at hz
  · simp at hz; omega
  split at hz
  · simp at hz; omega
  · simp at hz; rcases hz with hz | hz
    · split at hz <;> omega
    · omega
theorem headF_len (f : Fr) : (headF f).length ≤ 4 := by
  unfold headF
  repeat' split
  all_goals simp
theorem encF_ok (f : Fr) (h : okF f) : encF f = (headF f).flatMap encQ ++ (if f.kind = 8 then f.data.data.toList else []) := by
  unfold encF
  rw [if_pos h, encQs_all _ (headF_fit f h)]
theorem encF_no (f : Fr) (h : ¬ okF f) : encF f = [] := by
  unfold encF
  rw [if_neg h]
theorem readN_enc (zs : List Int) (t : List UInt8) (h : ∀ z ∈ zs, qsz z ≠ 0) : readN zs.length (zs.flatMap encQ ++ t) = some (zs, (zs.flatMap encQ).length) := by
  induction zs with
  | nil => rfl
  | cons z zs ih =>
    have hz := h z (by simp)
    have hz0 : 0 ≤ z := by
      have := mt (qsz_zero z).2 hz
      omega
    simp only [List.length_cons, List.flatMap_cons, List.append_assoc]
    unfold readN
    rw [decq_enc z _ hz]
    simp only
    have hd : (encQ z ++ (zs.flatMap encQ ++ t)).drop (qsz z) = zs.flatMap encQ ++ t := by
      rw [← encQ_len z, List.drop_left]
    rw [hd, ih (fun y hy => h y (by simp [hy]))]
    simp [encQ_len, Int.toNat_of_nonneg hz0]
theorem readN_len : ∀ (n : Nat) (l : List UInt8) (xs : List Int) (m : Nat), readN n l = some (xs, m) → xs.length = n ∧ m ≤ l.length ∧ (0 < n → 0 < m) ∧ ∀ x ∈ xs, inQ x := by
  intro n
  induction n with
  | zero =>
    intro l xs m h
    simp [readN] at h
    obtain ⟨rfl, rfl⟩ := h
    simp
  | succ n ih =>
    intro l xs m h
    unfold readN at h
    split at h
    · simp at h
    · rename_i x k hd
      split at h
      · simp at h
      · rename_i ys j hr
        simp at h
        obtain ⟨rfl, rfl⟩ := h
        obtain ⟨e1, e2, _, e4⟩ := ih _ _ _ hr
        obtain ⟨f1, f2, f3, f4, f5⟩ := decL_some hd
        rw [List.length_drop] at e2
        refine ⟨by simp [e1], by omega, fun _ => by omega, ?_⟩
        intro y hy
        rcases List.mem_cons.1 hy with rfl | hy
        · have hq : qsz (x : Int) ≠ 0 := by omega
          have := mt (qsz_zero (x : Int)).2 hq
          unfold inQ
          omega
        · exact e4 y hy
end Go.Proofs.YtjbppociogoopaaDoor.Num
