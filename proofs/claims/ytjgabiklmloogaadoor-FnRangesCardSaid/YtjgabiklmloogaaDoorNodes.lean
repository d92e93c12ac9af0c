/-
  Linked lists of ranges: nodes in blocks of their own, a link that leads into the list, and what cutting and putting a node leave.
-/
import Derived.Test.YtjgabiklmloogaaDoorSRng7
namespace Go.Proofs.YtjgabiklmloogaaDoor
open Go.RowKit Go.Deep Go.Proofs.YtjgabiklmloogaaDoor.Num

theorem setCell_ne {w : World} {a b : Addr} (h : a ≠ b) (v : Value) : (w.setCell a v).cell? b = w.cell? b := by
  apply World.cell?_setCell_other
  exact h
theorem frozen_cells {w : World} {g : Nat} {cs : Array Value} {t : TypeId} (h : w.heap[g]? = some (.cells cs t (0, 0))) (k : Nat) : w.frozen? ⟨g, k, none⟩ = false := by
  simp [World.frozen?, h]
/-- From p on lie these nodes: block and range. -/
def ListAt (w : World) : Option Addr → List (Nat × Rg) → Prop
  | p, [] => p = none
  | p, (b, x) :: L => p = some ⟨b, 0, none⟩ ∧ w.cell? ⟨b, 0, none⟩ = some (.int .i64 x.1) ∧ w.cell? ⟨b, 1, none⟩ = some (.int .i64 x.2) ∧ ∃ q, w.cell? ⟨b, 2, none⟩ = some (.pointer q) ∧ ListAt w q L
/-- From the link a these nodes lead to the link e. -/
def Seg (w : World) : Addr → List (Nat × Rg) → Addr → Prop
  | a, [], e => a = e
  | a, (b, x) :: L, e => w.cell? a = some (.pointer (some ⟨b, 0, none⟩)) ∧ w.cell? ⟨b, 0, none⟩ = some (.int .i64 x.1) ∧ w.cell? ⟨b, 1, none⟩ = some (.int .i64 x.2) ∧ Seg w ⟨b, 2, none⟩ L e
theorem ListAt.same {w w' : World} {L : List (Nat × Rg)} : ∀ {p}, ListAt w p L → (∀ b ∈ L.map (·.1), ∀ k, w'.cell? ⟨b, k, none⟩ = w.cell? ⟨b, k, none⟩) → ListAt w' p L := by
  induction L with
  | nil => intro p h _; exact h
  | cons y L ih =>
    obtain ⟨b, x⟩ := y
    intro p h hb
    obtain ⟨h1, h2, h3, q, h4, h5⟩ := h
    have hc := hb b (by simp)
    exact ⟨h1, (hc 0).trans h2, (hc 1).trans h3, q, (hc 2).trans h4, ih h5 fun c hc => hb c (by simp only [List.map_cons, List.mem_cons]; exact .inr hc)⟩
theorem Seg.mem {w : World} {L : List (Nat × Rg)} : ∀ {a e}, Seg w a L e → (L = [] ∧ a = e) ∨ (∃ b, b ∈ L.map (·.1) ∧ e = ⟨b, 2, none⟩) := by
  induction L with
  | nil => intro a e h; exact .inl ⟨rfl, h⟩
  | cons y L ih =>
    obtain ⟨b, x⟩ := y
    intro a e h
    obtain ⟨h1, h2, h3, h4⟩ := h
    rcases ih h4 with ⟨_, rfl⟩ | ⟨c, hc, rfl⟩
    · exact .inr ⟨b, by simp, rfl⟩
    · exact .inr ⟨c, by simp only [List.map_cons, List.mem_cons]; exact .inr hc, rfl⟩
theorem Seg.same {w w' : World} {L : List (Nat × Rg)} : ∀ {a e}, Seg w a L e → (a.block :: L.map (·.1)).Nodup → (∀ p : Addr, p ≠ e → p.block ∈ a.block :: L.map (·.1) → w'.cell? p = w.cell? p) → Seg w' a L e := by
  induction L with
  | nil => intro a e h _ _; exact h
  | cons y L ih =>
    obtain ⟨b, x⟩ := y
    intro a e h hnd hb
    obtain ⟨h1, h2, h3, h4⟩ := h
    have hnd' : a.block ∉ b :: L.map (·.1) ∧ (b :: L.map (·.1)).Nodup := List.nodup_cons.1 (by simpa using hnd)
    have hm := h4.mem
    have he : ∃ c, c ∈ b :: L.map (·.1) ∧ e = ⟨c, 2, none⟩ := by
      rcases hm with ⟨_, rfl⟩ | ⟨c, hc, rfl⟩
      · exact ⟨b, List.mem_cons_self, rfl⟩
      · exact ⟨c, List.mem_cons_of_mem _ hc, rfl⟩
    obtain ⟨c, hc, rfl⟩ := he
    refine ⟨(hb a (by intro h; apply hnd'.1; rw [h]; exact hc) List.mem_cons_self).trans h1, (hb _ (by simp) (by simp)).trans h2, (hb _ (by simp) (by simp)).trans h3, ?_⟩
    exact ih h4 (by simpa using hnd'.2) fun p hp hpm => hb p hp (List.mem_cons_of_mem _ (by simpa using hpm))
theorem Seg.snoc {w : World} {L : List (Nat × Rg)} {b : Nat} {x : Rg} : ∀ {a e}, Seg w a L e → w.cell? e = some (.pointer (some ⟨b, 0, none⟩)) → w.cell? ⟨b, 0, none⟩ = some (.int .i64 x.1) → w.cell? ⟨b, 1, none⟩ = some (.int .i64 x.2) → Seg w a (L ++ [(b, x)]) ⟨b, 2, none⟩ := by
  induction L with
  | nil => intro a e h h1 h2 h3; cases h; exact ⟨h1, h2, h3, rfl⟩
  | cons y L ih =>
    obtain ⟨c, z⟩ := y
    intro a e h h1 h2 h3
    obtain ⟨g1, g2, g3, g4⟩ := h
    exact ⟨g1, g2, g3, ih g4 h1 h2 h3⟩
theorem Seg.all {w : World} {L L2 : List (Nat × Rg)} : ∀ {a e p}, Seg w a L e → w.cell? e = some (.pointer p) → ListAt w p L2 → ∃ q, w.cell? a = some (.pointer q) ∧ ListAt w q (L ++ L2) := by
  induction L with
  | nil => intro a e p h h1 h2; cases h; exact ⟨p, h1, h2⟩
  | cons y L ih =>
    obtain ⟨c, z⟩ := y
    intro a e p h h1 h2
    obtain ⟨g1, g2, g3, g4⟩ := h
    obtain ⟨q, h3, h4⟩ := ih g4 h1 h2
    exact ⟨_, g1, rfl, g2, g3, q, h3, h4⟩

/-- The blocks of a list and of the cell that holds its head. -/
def blk (h : Nat) (L : List (Nat × Rg)) : List Nat := h :: L.map (·.1)
/-- A list whose head lies in block h, and a link into it. -/
structure St (w : World) (base h : Nat) (L1 L2 : List (Nat × Rg)) (eb eo : Nat) : Prop where
  seg : Seg w ⟨h, 0, none⟩ L1 ⟨eb, eo, none⟩
  rest : ∃ p, w.cell? ⟨eb, eo, none⟩ = some (.pointer p) ∧ ListAt w p L2
  nd : (blk h (L1 ++ L2)).Nodup
  old : ∀ b ∈ blk h (L1 ++ L2), base ≤ b ∧ b < w.heap.size
  free : ∀ b ∈ blk h (L1 ++ L2), ∀ k, w.frozen? ⟨b, k, none⟩ = false
theorem blk_append (h : Nat) (L1 L2 : List (Nat × Rg)) : blk h (L1 ++ L2) = blk h L1 ++ L2.map (·.1) := by simp [blk]
theorem St.link {w : World} {base h eb eo : Nat} {L1 L2 : List (Nat × Rg)} (s : St w base h L1 L2 eb eo) : eb ∈ blk h L1 ∧ (eo = 0 ∨ eo = 2) := by
  rcases s.seg.mem with ⟨_, e⟩ | ⟨b, hb, e⟩
  · injection e with e1 e2
    subst e1
    exact ⟨List.mem_cons_self, .inl e2.symm⟩
  · injection e with e1 e2
    subst e1
    exact ⟨List.mem_cons_of_mem _ hb, .inr e2⟩
theorem St.apart {w : World} {base h eb eo : Nat} {L1 L2 : List (Nat × Rg)} (s : St w base h L1 L2 eb eo) : eb ∉ L2.map (·.1) := by
  have hd := s.nd
  rw [blk_append] at hd
  exact fun h2 => (List.nodup_append.1 hd).2.2 eb s.link.1 eb h2 rfl
/-- What leaves the list's blocks alone leaves the list. -/
theorem St.keep {w w' : World} {base h eb eo : Nat} {L1 L2 : List (Nat × Rg)} (s : St w base h L1 L2 eb eo) (hs : w.heap.size ≤ w'.heap.size) (hb : ∀ b ∈ blk h (L1 ++ L2), w'.heap[b]? = w.heap[b]?) : St w' base h L1 L2 eb eo := by
  have hc : ∀ b ∈ blk h (L1 ++ L2), ∀ k, w'.cell? ⟨b, k, none⟩ = w.cell? ⟨b, k, none⟩ := fun b h k => World.cell?_of_block (hb b h)
  have hm1 : ∀ b ∈ blk h L1, b ∈ blk h (L1 ++ L2) := fun b h => by rw [blk_append]; exact List.mem_append_left _ h
  have hm2 : ∀ b ∈ L2.map (·.1), b ∈ blk h (L1 ++ L2) := fun b h => by rw [blk_append]; exact List.mem_append_right _ h
  obtain ⟨p, h1, h2⟩ := s.rest
  have hnd : (blk h L1).Nodup := by have := s.nd; rw [blk_append] at this; exact (List.nodup_append.1 this).1
  refine ⟨s.seg.same hnd fun q _ hq => World.cell?_of_block (hb q.block (hm1 _ hq)), ⟨p, (hc eb (hm1 _ s.link.1) eo).trans h1, h2.same fun b hb k => hc b (hm2 b hb) k⟩, s.nd, fun b hb => ⟨(s.old b hb).1, Nat.lt_of_lt_of_le (s.old b hb).2 hs⟩, fun b h k => (World.frozen?_of_block (hb b h)).trans (s.free b h k)⟩
theorem St.below {w w' : World} {base h eb eo : Nat} {L1 L2 : List (Nat × Rg)} (s : St w base h L1 L2 eb eo) (hb : Below w.heap.size w w') : St w' base h L1 L2 eb eo :=
  s.keep hb.size fun b h => hb.block b (s.old b h).2
theorem St.other {w : World} {base h eb eo : Nat} {L1 L2 : List (Nat × Rg)} (s : St w base h L1 L2 eb eo) (g k : Nat) (v : Value) (hg : g ∉ blk h (L1 ++ L2)) : St (w.setCell ⟨g, k, none⟩ v) base h L1 L2 eb eo :=
  s.keep (by simp [World.setCell]) fun b hb => Below.heap_setCell w ⟨g, k, none⟩ v b (by rintro rfl; exact hg hb)
/-- The node behind the link is cut. -/
theorem St.cut {w : World} {base h eb eo b : Nat} {x : Rg} {L1 L2 : List (Nat × Rg)} (s : St w base h L1 ((b, x) :: L2) eb eo) :
    w.cell? ⟨eb, eo, none⟩ = some (.pointer (some ⟨b, 0, none⟩)) ∧ w.cell? ⟨b, 0, none⟩ = some (.int .i64 x.1) ∧ w.cell? ⟨b, 1, none⟩ = some (.int .i64 x.2) ∧ ∃ q, w.cell? ⟨b, 2, none⟩ = some (.pointer q) ∧ St (w.setCell ⟨eb, eo, none⟩ (.pointer q)) base h L1 L2 eb eo := by
  obtain ⟨p, h1, h2, h3, h4, q, h5, h6⟩ := s.rest
  subst h2
  refine ⟨h1, h3, h4, q, h5, ?_⟩
  have hap := s.apart
  have hd := s.nd
  rw [blk_append] at hd
  have hsub : ∀ c, c ∈ blk h (L1 ++ L2) → c ∈ blk h (L1 ++ (b, x) :: L2) := by
    intro c hc
    rw [blk_append] at hc ⊢
    rcases List.mem_append.1 hc with hc | hc
    · exact List.mem_append_left _ hc
    · exact List.mem_append_right _ (List.mem_cons_of_mem _ hc)
  have hnd : (blk h L1).Nodup := (List.nodup_append.1 hd).1
  refine ⟨s.seg.same hnd fun p hp _ => setCell_ne (fun e => hp e.symm) _, ⟨q, World.cell?_setCell_same' _ _ _ (by rw [h1]; rfl), h6.same fun c hc k => setCell_ne (fun e => by injection e with e1 _; subst e1; exact hap (List.mem_cons_of_mem _ hc)) _⟩, ?_, fun c hc => ?_, fun c hc k => ?_⟩
  · rw [blk_append]
    have h7 := List.nodup_append.1 hd
    exact List.nodup_append.2 ⟨h7.1, (List.nodup_cons.1 h7.2.1).2, fun a ha c hc => h7.2.2 a ha c (List.mem_cons_of_mem _ hc)⟩
  · have := s.old c (hsub c hc)
    simpa [World.setCell] using this
  · rw [World.frozen?_setCell]
    exact s.free c (hsub c hc) k
/-- The link goes on. -/
theorem St.next {w : World} {base h eb eo b : Nat} {x : Rg} {L1 L2 : List (Nat × Rg)} (s : St w base h L1 ((b, x) :: L2) eb eo) : St w base h (L1 ++ [(b, x)]) L2 b 2 := by
  obtain ⟨p, h1, h2, h3, h4, q, h5, h6⟩ := s.rest
  subst h2
  have e : L1 ++ [(b, x)] ++ L2 = L1 ++ (b, x) :: L2 := by simp
  exact ⟨s.seg.snoc h1 h3 h4, ⟨q, h5, h6⟩, by rw [e]; exact s.nd, by rw [e]; exact s.old, by rw [e]; exact s.free⟩
/-- A node is put behind the link. -/
theorem St.put {w : World} {base h eb eo : Nat} {L1 L2 : List (Nat × Rg)} (s : St w base h L1 L2 eb eo) (r : Rg) (t : TypeId) (hbase : base ≤ w.heap.size) :
    ∃ p, w.cell? ⟨eb, eo, none⟩ = some (.pointer p) ∧ St ((w.alloc (.cells #[.int .i64 r.1, .int .i64 r.2, .pointer p] t)).setCell ⟨eb, eo, none⟩ (.pointer (some ⟨w.heap.size, 0, none⟩))) base h (L1 ++ [(w.heap.size, r)]) L2 w.heap.size 2 := by
  obtain ⟨p, h1, h2⟩ := s.rest
  refine ⟨p, h1, ?_⟩
  have hle : eb < w.heap.size := (s.old eb (by rw [blk_append]; exact List.mem_append_left _ s.link.1)).2
  have hnew : ∀ c ∈ blk h (L1 ++ L2), c ≠ w.heap.size := fun c hc e => by have := (s.old c hc).2; omega
  have hm1 : ∀ b ∈ blk h L1, b ∈ blk h (L1 ++ L2) := fun b h => by rw [blk_append]; exact List.mem_append_left _ h
  have hm2 : ∀ b ∈ L2.map (·.1), b ∈ blk h (L1 ++ L2) := fun b h => by rw [blk_append]; exact List.mem_append_right _ h
  have hd := s.nd
  rw [blk_append] at hd
  have hnd : (blk h L1).Nodup := (List.nodup_append.1 hd).1
  have hap := s.apart
  have hold : ∀ c, c < w.heap.size → ∀ k, (w.alloc (.cells #[.int .i64 r.1, .int .i64 r.2, .pointer p] t)).cell? ⟨c, k, none⟩ = w.cell? ⟨c, k, none⟩ := fun c hc k => World.cell?_of_block (Below.heap_alloc w _ c hc)
  have hnw : ∀ k, ((w.alloc (.cells #[.int .i64 r.1, .int .i64 r.2, .pointer p] t)).setCell ⟨eb, eo, none⟩ (.pointer (some ⟨w.heap.size, 0, none⟩))).cell? ⟨w.heap.size, k, none⟩ = (#[.int .i64 r.1, .int .i64 r.2, .pointer p] : Array Value)[k]? := fun k => by
    rw [setCell_ne (fun e => by injection e with e1 _; omega) _, World.cell?_alloc_at _ _ _ _ rfl]
  have hlnk : ((w.alloc (.cells #[.int .i64 r.1, .int .i64 r.2, .pointer p] t)).setCell ⟨eb, eo, none⟩ (.pointer (some ⟨w.heap.size, 0, none⟩))).cell? ⟨eb, eo, none⟩ = some (.pointer (some ⟨w.heap.size, 0, none⟩)) :=
    World.cell?_setCell_same' _ _ _ (by rw [hold eb hle, h1]; rfl)
  have e : L1 ++ [(w.heap.size, r)] ++ L2 = L1 ++ (w.heap.size, r) :: L2 := by simp
  have hmem : ∀ c, c ∈ blk h (L1 ++ (w.heap.size, r) :: L2) → c = w.heap.size ∨ c ∈ blk h (L1 ++ L2) := by
    intro c hc
    rw [blk_append] at hc ⊢
    rcases List.mem_append.1 hc with hc | hc
    · exact .inr (List.mem_append_left _ hc)
    · rcases List.mem_cons.1 hc with hc | hc
      · exact .inl hc
      · exact .inr (List.mem_append_right _ hc)
  refine ⟨Seg.snoc (e := ⟨eb, eo, none⟩) ?_ hlnk (hnw 0) (hnw 1), ⟨p, hnw 2, h2.same fun c hc k => ?_⟩, ?_, fun c hc => ?_, fun c hc k => ?_⟩
  · refine s.seg.same hnd fun q hq hm => ?_
    rw [setCell_ne (fun e => hq e.symm) _]
    exact World.cell?_of_block (Below.heap_alloc w _ q.block (s.old q.block (hm1 _ hm)).2)
  · rw [setCell_ne (fun e => by injection e with e1 _; subst e1; exact hap hc) _]
    exact hold c (s.old c (hm2 c hc)).2 k
  · rw [e, blk_append]
    have h7 := List.nodup_append.1 hd
    refine List.nodup_append.2 ⟨h7.1, List.nodup_cons.2 ⟨fun hc => hnew _ (hm2 _ hc) rfl, h7.2.1⟩, fun a ha c hc => ?_⟩
    rcases List.mem_cons.1 hc with rfl | hc
    · exact hnew a (hm1 a ha)
    · exact h7.2.2 a ha c hc
  · rw [e] at hc
    rcases hmem c hc with rfl | hc
    · exact ⟨hbase, by simp [World.setCell]⟩
    · have := s.old c hc
      refine ⟨this.1, ?_⟩
      simp [World.setCell]
      omega
  · rw [e] at hc
    rw [World.frozen?_setCell]
    rcases hmem c hc with rfl | hc
    · exact frozen_cells (heap_alloc_new w _) k
    · exact (World.frozen?_of_block (Below.heap_alloc w _ c (s.old c hc).2)).trans (s.free c hc k)
end Go.Proofs.YtjgabiklmloogaaDoor
