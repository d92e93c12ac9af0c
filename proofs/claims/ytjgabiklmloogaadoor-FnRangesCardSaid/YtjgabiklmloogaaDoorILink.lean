/-
  What impl.cutNode, putNode, linkReaching and listRanges return.
-/
import Derived.Test.YtjgabiklmloogaaDoorNodes
namespace Go.Proofs.YtjgabiklmloogaaDoor
open Go.RowKit Go.Deep Go.Proofs.YtjgabiklmloogaaDoor.Num

theorem St.ne {w : World} {base h eb eo b : Nat} {x : Rg} {L1 L2 : List (Nat × Rg)} (s : St w base h L1 ((b, x) :: L2) eb eo) : eb ≠ b := by
  have := s.apart
  rintro rfl
  exact this (by simp)
theorem St.mem {w : World} {base h eb eo b : Nat} {x : Rg} {L1 L2 : List (Nat × Rg)} (_ : St w base h L1 ((b, x) :: L2) eb eo) : b ∈ blk h (L1 ++ (b, x) :: L2) := by
  rw [blk_append]
  exact List.mem_append_right _ (by simp)
theorem St.drew {w : World} {base h eb eo : Nat} {L1 L2 : List (Nat × Rg)} (s : St w base h L1 L2 eb eo) : St w.drew base h L1 L2 eb eo := s.below (Below.refl _ _).drew
theorem St.emem {w : World} {base h eb eo : Nat} {L1 L2 : List (Nat × Rg)} (s : St w base h L1 L2 eb eo) : eb ∈ blk h (L1 ++ L2) := by
  rw [blk_append]
  exact List.mem_append_left _ s.link.1

set_option maxRecDepth 100000 in
/-- impl.cutNode -/
theorem icut {w : World} {base h eb eo b : Nat} {x : Rg} {L1 L2 : List (Nat × Rg)} (s : St w base h L1 ((b, x) :: L2) eb eo) (hbase : base ≤ w.heap.size) :
    Calls Tryd.prog 34 #[.pointer (some ⟨eb, eo, none⟩)] w fun e w' => e = .returned (rgV x) ∧ St w' base h L1 L2 eb eo ∧ Below base w w' := by
  have s0 := s.below ((Below.refl _ w).alloc (Nat.le_refl _) (.cells #[.int .i64 0, .int .i64 0] 26))
  obtain ⟨c1, c2, c3, q, c4, s1⟩ := s0.cut
  have f0 := s0.free eb s0.emem eo
  have n1 : eb ≠ b := s.ne
  have n2 : eb ≠ w.heap.size := by have := (s.old eb s.emem).2; omega
  have n3 : b ≠ w.heap.size := by have := (s.old b s.mem).2; omega
  have n4 : w.heap.size ∉ blk h (L1 ++ L2) := fun hm => by
    have := (s.old w.heap.size (by
      rw [blk_append] at hm ⊢
      rcases List.mem_append.1 hm with hm | hm
      · exact List.mem_append_left _ hm
      · exact List.mem_append_right _ (List.mem_cons_of_mem _ hm))).2
    omega
  have hbe : base ≤ eb := (s.old eb s.emem).1
  have HS1 := Lib.hid s1
  have HN4 := Lib.hid n4
  have HX := Lib.hid (heap_alloc_new w (.cells #[.int .i64 0, .int .i64 0] 26))
  have HB := Lib.hid ((((Below.refl base w).alloc hbase (.cells #[.int .i64 0, .int .i64 0] 26)).setCell (p := ⟨eb, eo, none⟩) hbe (.pointer q)))
  clear s s0 s1 n4
  go_enter Tryd.func34, Tryd.ntmps34
  go_wp2
  refine bodyPost_ret (results_cell_row rfl _ _ w.heap.size _ _ _ _ rfl (Box.set1 (Box.set0 (x := (0, 0)) ((Below.heap_setCell _ _ _ _ (Ne.symm n2)).trans HX.out) x.1) x.2) Tryd.underlying26 rfl (by kernel_rfl)) rfl ?_
  exact ⟨rfl, (HS1.out.other _ 0 _ HN4.out).other _ 1 _ HN4.out, (HB.out.setCell (p := ⟨_, _, _⟩) hbase _).setCell (p := ⟨_, _, _⟩) hbase _⟩

set_option maxRecDepth 100000 in
/-- impl.putNode -/
theorem iput {w : World} {base h eb eo : Nat} {L1 L2 : List (Nat × Rg)} (s : St w base h L1 L2 eb eo) (r : Rg) (hbase : base ≤ w.heap.size) :
    Calls Tryd.prog 35 #[.pointer (some ⟨eb, eo, none⟩), rgV r] w fun e w' => ∃ eb' eo' L1', e = .returned (.pointer (some ⟨eb', eo', none⟩)) ∧ L1'.map (·.2) = L1.map (·.2) ++ (if r.1 < r.2 then [r] else []) ∧ St w' base h L1' L2 eb' eo' ∧ Below base w w' ∧ (∀ k, k < w.heap.size → k ≠ eb → w'.heap[k]? = w.heap[k]?) := by
  have s0 := s.below ((Below.refl _ w).alloc (Nat.le_refl _) (.cells #[.int .i64 r.1, .int .i64 r.2] 26))
  have hb0 := (Below.refl base w).alloc hbase (.cells #[.int .i64 r.1, .int .i64 r.2] 26)
  have hx := Box.new w r
  have hsz : w.heap.size < (w.alloc (.cells #[.int .i64 r.1, .int .i64 r.2] 26)).heap.size := by simp
  have HO := Lib.hid (fun k (hk : k < w.heap.size) => heap_alloc_old w (.cells #[.int .i64 r.1, .int .i64 r.2] 26) hk)
  by_cases hr : r.1 < r.2
  · have hd : decide (r.2 ≤ r.1) = false := decide_eq_false (by omega)
    rw [if_pos hr]
    clear hr
    go_enter Tryd.func35, Tryd.ntmps35
    go_wp2
    generalize w.alloc (.cells #[.int .i64 r.1, .int .i64 r.2] 26) = w1 at *
    obtain ⟨p, c1, s1⟩ := s0.put r 54 (Nat.le_trans hbase hb0.size)
    obtain ⟨q1, q2⟩ := hx.cells
    have hlt : eb < w1.heap.size := (s0.old eb s0.emem).2
    have d1 : (w1.alloc (.cells #[.int .i64 r.1, .int .i64 r.2, .pointer p] 54)).drew.cell? ⟨eb, eo, none⟩ = some (.pointer p) := (World.cell?_of_block (Below.heap_alloc w1 _ eb hlt)).trans c1
    have f1 : (w1.alloc (.cells #[.int .i64 r.1, .int .i64 r.2, .pointer p] 54)).drew.frozen? ⟨eb, eo, none⟩ = false := (World.frozen?_of_block (Below.heap_alloc w1 _ eb hlt)).trans (s0.free eb s0.emem eo)
    have HS := Lib.hid (s1.keep (w' := (w1.alloc (.cells #[.int .i64 r.1, .int .i64 r.2, .pointer p] 54)).drew.setCell ⟨eb, eo, none⟩ (.pointer (some ⟨w1.heap.size, 0, none⟩))) (Nat.le_refl _) (fun _ _ => rfl))
    have HB := Lib.hid ((hb0.alloc (Nat.le_trans hbase hb0.size) (.cells #[.int .i64 r.1, .int .i64 r.2, .pointer p] 54)).drew.setCell (p := ⟨eb, eo, none⟩) (s0.old eb s0.emem).1 (.pointer (some ⟨w1.heap.size, 0, none⟩)))
    clear s s0 s1 hb0 hx hlt
    go_region
    clear c1 q1 q2
    go_wp2
    go_ret
    exact ⟨w1.heap.size, 2, _, rfl, by simp, HS.out, HB.out, fun k hk hne => (Below.heap_setCell _ ⟨eb, eo, none⟩ _ k hne).trans ((Below.heap_alloc w1 _ k (by omega)).trans (HO.out k hk))⟩
  · have hd : decide (r.2 ≤ r.1) = true := decide_eq_true (by omega)
    rw [if_neg hr, List.append_nil]
    have HS := Lib.hid s0
    have HB := Lib.hid hb0
    clear hr s s0 hb0 hx hsz
    go_enter Tryd.func35, Tryd.ntmps35
    go_wp2
    go_ret
    exact ⟨eb, eo, L1, rfl, rfl, HS.out, HB.out, fun k hk _ => HO.out k hk⟩

/-- How many nodes lie from p on. -/
def lenFrom (w : World) : Nat → Option Addr → Nat
  | 0, _ => 0
  | _ + 1, none => 0
  | f + 1, some a => match w.cell? ⟨a.block, 2, none⟩ with
    | some (.pointer q) => lenFrom w f q + 1
    | _ => 0
def lenLink (w : World) (f : Nat) : Value → Nat
  | .pointer (some e) => match w.cell? e with
    | some (.pointer p) => lenFrom w f p
    | _ => 0
  | _ => 0
def lenPtr (w : World) (f : Nat) : Value → Nat
  | .pointer p => lenFrom w f p
  | _ => 0
theorem ListAt.len {w : World} {L : List (Nat × Rg)} : ∀ {f p}, ListAt w p L → L.length ≤ f → lenFrom w f p = L.length := by
  induction L with
  | nil =>
    intro f p h _
    cases h
    cases f <;> rfl
  | cons y L ih =>
    obtain ⟨b, x⟩ := y
    intro f p h hf
    obtain ⟨rfl, _, _, q, h4, h5⟩ := h
    cases f with
    | zero => simp at hf
    | succ f =>
      show (match w.cell? ⟨b, 2, none⟩ with | some (.pointer q) => lenFrom w f q + 1 | _ => 0) = L.length + 1
      rw [h4]
      show lenFrom w f q + 1 = L.length + 1
      rw [ih h5 (by simpa using hf)]
theorem St.len {w : World} {base h eb eo : Nat} {L1 L2 : List (Nat × Rg)} (s : St w base h L1 L2 eb eo) {f : Nat} (hf : L2.length ≤ f) : lenLink w f (.pointer (some ⟨eb, eo, none⟩)) = L2.length := by
  obtain ⟨p, h1, h2⟩ := s.rest
  show (match w.cell? ⟨eb, eo, none⟩ with | some (.pointer p) => lenFrom w f p | _ => 0) = L2.length
  rw [h1]
  exact h2.len hf
theorem ListAt.below {w w' : World} {L : List (Nat × Rg)} {p : Option Addr} {K : Nat} (h : ListAt w p L) (hk : ∀ b ∈ L.map (·.1), b < K) (hb : Below K w w') : ListAt w' p L :=
  h.same fun b hm _ => World.cell?_of_block (hb.block b (hk b hm))

/-- All these ranges end below n. -/
def LowL (L : List (Nat × Rg)) (n : Int) : Prop := ∀ y ∈ L, y.2.2 < n
/-- The first of these ranges, if any, ends at n or behind it. -/
def HighL : List (Nat × Rg) → Int → Prop
  | [], _ => True
  | y :: _, n => n ≤ y.2.2
theorem LowL.snoc {L : List (Nat × Rg)} {n : Int} {y : Nat × Rg} (h : LowL L n) (hy : y.2.2 < n) : LowL (L ++ [y]) n := fun z hz => by
  rcases List.mem_append.1 hz with hz | hz
  · exact h z hz
  · have : z = y := by simpa using hz
    rw [this]; exact hy

set_option maxRecDepth 100000 in
/-- impl.linkReaching, from the list's head -/
theorem ireach {w : World} {base h : Nat} {L : List (Nat × Rg)} (s : St w base h [] L h 0) (n : Int) :
    Calls Tryd.prog 33 #[.pointer (some ⟨h, 0, none⟩), .int .i64 n] w fun e w' => ∃ L1 L2 eb eo, e = .returned (.pointer (some ⟨eb, eo, none⟩)) ∧ L = L1 ++ L2 ∧ St w base h L1 L2 eb eo ∧ LowL L1 n ∧ HighL L2 n ∧ w' = w := by
  have HS0 := Lib.hid s
  clear s
  go_enter Tryd.func33, Tryd.ntmps33
  go_wp2
  go_loop [0] (fun v => ∃ L1 L2 eb eo, v = .pointer (some ⟨eb, eo, none⟩) ∧ L = L1 ++ L2 ∧ St w base h L1 L2 eb eo ∧ LowL L1 n) (fun v => lenLink w L.length v)
  case atStart => exact ⟨[], L, h, 0, rfl, rfl, HS0.out, fun y hy => by cases hy⟩
  case round =>
    obtain ⟨L1, L2, eb, eo, rfl, hL, hs, hall⟩ := hrel
    have HL := Lib.hid hL
    have HS := Lib.hid hs
    have HA := Lib.hid hall
    clear hL hs hall HS0
    cases L2 with
    | nil =>
      obtain ⟨p, c1, c2⟩ := HS.out.rest
      cases c2
      go_wp2
      go_ret
      exact ⟨L1, [], eb, eo, rfl, HL.out, HS.out, HA.out, trivial, rfl⟩
    | cons y L2 =>
      obtain ⟨b, x⟩ := y
      obtain ⟨c1, c2, c3, q, c4, _⟩ := HS.out.cut
      by_cases hx : x.2 < n
      · have hd : decide (x.2 < n) = true := decide_eq_true hx
        have HX := Lib.hid hx
        clear hx
        go_wp2
        go_round
        case rel => exact ⟨L1 ++ [(b, x)], L2, b, 2, rfl, by rw [HL.out]; simp, HS.out.next, HA.out.snoc HX.out⟩
        case measure =>
          have hlen : L.length = L1.length + (L2.length + 1) := by rw [HL.out]; simp
          rw [HS.out.next.len (by omega), HS.out.len (by simp; omega)]
          simp
      · have hd : decide (x.2 < n) = false := decide_eq_false hx
        have HX : Hid (n ≤ x.2) := Lib.hid (by omega)
        clear hx
        go_wp2
        go_ret
        exact ⟨L1, (b, x) :: L2, eb, eo, rfl, HL.out, HS.out, HA.out, HX.out, rfl⟩

set_option maxRecDepth 100000 in
/-- impl.listRanges -/
theorem ilist {w : World} {p : Option Addr} {L : List (Nat × Rg)} (hl : ListAt w p L) (hk : ∀ b ∈ L.map (·.1), b < w.heap.size) (hn : L.length ≤ 1000000000) :
    Calls Tryd.prog 36 #[.pointer p] w fun e w' => ∃ v, e = .returned v ∧ OwnR w' w.heap.size v (L.map (·.2)) ∧ Below w.heap.size w w' := by
  have HL0 := Lib.hid hl
  have HK0 := Lib.hid hk
  clear hl hk
  go_enter Tryd.func36, Tryd.ntmps36
  go_wp2
  go_loopw [0, 3] (fun vp vo wr => ∃ q acc L2, vp = .pointer q ∧ acc ++ L2.map (·.2) = L.map (·.2) ∧ acc.length + L2.length = L.length ∧ ListAt wr q L2 ∧ (∀ b ∈ L2.map (·.1), b < w.heap.size) ∧ OwnR wr w.heap.size vo acc ∧ Below w.heap.size w wr) (fun vp _ wr => lenPtr wr L.length vp)
  case atStart => exact ⟨p, [], L, rfl, rfl, by simp, HL0.out, HK0.out, OwnR.empty, Below.refl _ _⟩
  case round =>
    obtain ⟨q, acc, L2, rfl, he, hlen, hl, hk, ho, hb⟩ := hrel
    have HE := Lib.hid he
    have HL := Lib.hid hl
    have HK := Lib.hid hk
    have HO := Lib.hid ho
    have HB := Lib.hid hb
    clear he hl hk ho hb HL0 HK0
    cases L2 with
    | nil =>
      have hq := HL.out
      cases hq
      have HE2 : Hid (acc = L.map (·.2)) := Lib.hid (by have := HE.out; simpa using this)
      go_wp2
      go_ret
      exact ⟨_, rfl, by rw [← HE2.out]; exact HO.out, HB.out⟩
    | cons y L2 =>
      obtain ⟨b, x⟩ := y
      obtain ⟨rfl, c1, c2, q2, c3, c4⟩ := HL.out
      have HL2 := Lib.hid c4
      have hbl : b < w.heap.size := HK.out b (by simp)
      have hwr : w.heap.size ≤ wr.heap.size := HB.out.size
      have hal : acc.length + (L2.length + 1) = L.length := by simpa using hlen
      clear c4
      go_wp2_with (at_builtin; refine wpList_append_rgs _ rfl (.tmp 10) (.tmp 15) rfl w.heap.size _ acc rfl (OwnR.alloc (w := wr) HO.out _) wr.heap.size 0 1 1 _ [x] rfl rfl (rgs_one wr x _) (by omega) (by simp; omega) ?_; intro v5 w5 h5 b5; have b6 := ((Below.refl _ wr).alloc hwr (.cells #[.int .i64 x.1, .int .i64 x.2] 26)).trans b5; have c5 := (b6.cell (p := ⟨b, 2, none⟩) hbl).trans c3)
      have HB5 := Lib.hid (HB.out.trans b6)
      have HL5 := Lib.hid (HL2.out.below (fun c hc => HK.out c (by simp only [List.map_cons, List.mem_cons]; exact .inr hc)) b6)
      have HLL := Lib.hid (show ListAt wr (some ⟨b, 0, none⟩) ((b, x) :: L2) from HL.out)
      go_roundw
      case rel => exact ⟨q2, acc ++ [x], L2, rfl, by rw [← HE.out]; simp, by simp; omega, HL5.out, fun c hc => HK.out c (by simp only [List.map_cons, List.mem_cons]; exact .inr hc), h5, HB5.out⟩
      case measure =>
        show lenFrom w5 L.length q2 < lenFrom wr L.length (some ⟨b, 0, none⟩)
        rw [HL5.out.len (by omega), HLL.out.len (by simp; omega)]
        simp
end Go.Proofs.YtjgabiklmloogaaDoor
