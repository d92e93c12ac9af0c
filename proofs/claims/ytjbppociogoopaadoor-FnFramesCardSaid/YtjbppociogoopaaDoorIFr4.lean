/-
  What impl.hasUnusedField returns.
-/
import Derived.Test.YtjbppociogoopaaDoorIFr2
import Derived.Test.YtjbppociogoopaaDoorIFr3
namespace Go.Proofs.YtjbppociogoopaaDoor
open Go.RowKit Go.Deep Go.Maps Go.Proofs.YtjbppociogoopaaDoor.Num

/-- The law of the map's keys. -/
theorem lawK : Keyed Tryd.prog 67 := int_keyed Tryd.underlying67

theorem Below.ownsMap {H : Type} {P : Program} {k : TypeId} {R : Value → Option (DataW H × List MemPlace)} {w w' : World} {K b n : Nat} {D : DataW H} (h : w.ownsMap P k R b n D) (hb : Below K w w') (hk : b < K) : w'.ownsMap P k R b n D := by
  obtain ⟨es, clock, e, r⟩ := h
  exact ⟨es, clock, (hb.block b hk).trans e, r⟩

/-- So many fields lie in the map beside the frame's block. -/
def MapAt (w0 w : World) (g : Nat) (f : Fr) (n : Nat) : Prop :=
  ∃ D : DataW Unit, w.ownsMap Tryd.prog 67 (plainElem Tryd.prog 4) (g + 1) n D ∧ Laid D f n ∧ BoxF w g f ∧ Below g w0 w
theorem MapAt.start (w : World) (f : Fr) : MapAt w ((w.alloc (.cells (frC f) 25)).alloc (.map #[] 0)) w.heap.size f 0 := by
  have h := World.ownsMap_made (H := Unit) (w.alloc (.cells (frC f) 25)) Tryd.prog 67 (plainElem Tryd.prog 4)
  rw [show (w.alloc (.cells (frC f) 25)).heap.size = w.heap.size + 1 by simp] at h
  exact ⟨_, h, Laid.start f, (BoxF.new w f).alloc _, ((Below.refl _ _).alloc (Nat.le_refl _) _).alloc (by simp) _⟩
theorem MapAt.cells {w0 w : World} {g n : Nat} {f : Fr} (h : MapAt w0 w g f n) : w.cell? ⟨g, 0, none⟩ = some (.int .i64 f.kind) ∧ w.cell? ⟨g, 1, none⟩ = some (.int .i64 f.stream) ∧ w.cell? ⟨g, 2, none⟩ = some (.int .i64 f.offset) ∧ w.cell? ⟨g, 3, none⟩ = some (.string f.data) ∧ w.cell? ⟨g, 4, none⟩ = some (.bool f.fin) ∧ w.cell? ⟨g, 5, none⟩ = some (.int .i64 f.code) ∧ w.cell? ⟨g, 6, none⟩ = some (.int .i64 f.limit) ∧ w.cell? ⟨g, 7, none⟩ = some (.int .i64 f.final) ∧ w.cell? ⟨g, 8, none⟩ = some (.bool f.uni) := by
  obtain ⟨D, _, _, h, _⟩ := h
  exact h.cells
theorem set_ne (x : Int) : (x != 0) = decide (x ≠ 0) := by by_cases h : x = 0 <;> simp [h, bne]
theorem set_data (f : Fr) : (!f.data.toList.isEmpty) = decide (f.data ≠ ⟨#[]⟩) := by
  by_cases h : f.data = ⟨#[]⟩
  · rw [h, ByteArray.toList_eq]
    simp
  · rw [decide_eq_true h, ByteArray.toList_eq]
    cases hl : f.data.data.toList with
    | nil => exact absurd (ByteArray.ext (Array.toList_inj.mp hl)) h
    | cons x y => rfl
/-- One more field is laid in. -/
theorem wpList_field {ops : Array Oper} {rest : List Oper} {o : Oper} {a : Act} {Q : Exit → Act → World → Prop} {w0 w : World} {g n : Nat} {f : Fr}
    (hg : o.guard = none) (m x v : Operand) (hop : o.op = Op.insert 103 m x v) (h : MapAt w0 w g f n) (hn : n < 8)
    (hm : a.eval m = .map (some (g + 1))) (i : Int) (hi : i = n) (hx : a.eval x = .int .i64 i) (b : Bool) (hv : a.eval v = .bool b) (hb : b = setK f i)
    (hK : ∀ w', MapAt w0 w' g f (n + 1) → wpList Tryd.prog ops Q rest (a.put o.dst undef) w') :
    wpList Tryd.prog ops Q (o :: rest) a w := by
  obtain ⟨D, h1, h2, h3, h4⟩ := h
  subst hi hb
  have hw := kF_wf (n : Int) (by omega) (by omega)
  have hkey := keyOf_int_mk (P := Tryd.prog) Tryd.underlying67 hw
  refine wpList_insert_own w hg m x v _ hop 67 4 lawK Tryd.underlying103 _ (g + 1) n D hm h1 (by unfold maxLen; omega) _ _ _ hx hv hkey _ [] (plainElem_bool Tryd.underlying4 _) fun w' r1 r2 => hK w' ⟨_, r1, h2.put (lawK.key hkey), ?_, ?_⟩
  · exact (r2.block g h3.lt (by intro e; have := Option.some.inj e; omega)).trans h3
  · exact h4.grown r2 (Nat.le_of_lt h3.lt) (fun j hj => by cases hj; omega)

/-- The shapes of the map's keys and elements. -/
theorem invF : ∀ key kl, keyOf Tryd.prog 67 key = some kl → ∃ x, key = Value.int .i64 x := fun key kl hkey => by
  obtain ⟨x, rfl, _⟩ := Maps.keyOf_int_inv Tryd.underlying67 hkey
  exact ⟨x, rfl⟩
theorem invB : ∀ v y, plainElem (H := Unit) Tryd.prog 4 v = some y → ∃ c, v = Value.bool c := fun v y hv => by
  obtain ⟨c, rfl, _⟩ := plain_bool_inv Tryd.underlying4 hv
  exact ⟨c, rfl⟩
/-- The next of a range over the map: nothing is left, or one that is set, or one that isn't. -/
theorem wpList_next_field {ops : Array Oper} {rest : List Oper} {o : Oper} {a : Act} {Q : Exit → Act → World → Prop} (w : World) (hg : o.guard = none) (it : Operand) (hop : o.op = Op.next it false) (b r n : Nat) (D : DataW Unit) (left : Lit → Bool) (cnt : Nat)
    (hit : a.eval it = .pointer (some ⟨r, 0, none⟩)) (h : w.ranges Tryd.prog 67 (plainElem Tryd.prog 4) b r n D left cnt)
    (hDone : (∀ kl, left kl = false) → wpList Tryd.prog ops Q rest (a.put o.dst (.tuple #[.bool false])) w)
    (hSet : ∀ (x : Int) (kl : Lit) (w' : World), (∀ z, D.atKey kl z = bF true) → w.grownBy w' (some r) → (Instr.entry (.pointer (some ⟨r, 0, none⟩))).run Tryd.prog w' = .ok (.tuple #[.int .i64 x, .bool true]) w' → wpList Tryd.prog ops Q rest (a.put o.dst (.tuple #[.bool true, .int .i64 x, .bool true])) w')
    (hNot : ∀ (x : Int) (kl : Lit) (w' : World) (cnt' : Nat), (∀ z, D.atKey kl z = bF false) → w'.ranges Tryd.prog 67 (plainElem Tryd.prog 4) b r n D (fun z => left z && !z.sameKey kl) cnt' → cnt' < cnt → w.grownBy w' (some r) → (Instr.entry (.pointer (some ⟨r, 0, none⟩))).run Tryd.prog w' = .ok (.tuple #[.int .i64 x, .bool false]) w' → wpList Tryd.prog ops Q rest (a.put o.dst (.tuple #[.bool true, .int .i64 x, .bool false])) w') :
    wpList Tryd.prog ops Q (o :: rest) a w := by
  refine wpList_next_ranges w hg it hop 67 lawK (plainElem Tryd.prog 4) (Value.int .i64) Value.bool invF invB b r n D left cnt hit h (fun _ hl => hDone hl) ?_
  intro x c kl y w' cnt' _ _ hv hat hrg hlt hgr _ hen
  obtain ⟨c', ec, rfl⟩ := plain_bool_inv Tryd.underlying4 hv
  cases ec
  cases c with
  | true => exact hSet x kl w' hat hgr hen
  | false => exact hNot x kl w' cnt' hat hrg hlt hgr hen

set_option maxRecDepth 100000 in
/-- impl.hasUnusedField -/
theorem iunused (f : Fr) (w : World) :
    Calls Tryd.prog 52 #[frV f] w fun e w' => e = .returned (.bool (unK f)) ∧ Below w.heap.size w w' := by
  have hmm := @run_makeMap Tryd.prog
  have HF := Lib.hid (ifields f.kind)
  have hM := MapAt.start w f
  obtain ⟨q0, q1, q2, q3, q4, q5, q6, q7, q8⟩ := hM.cells
  go_enter Tryd.func52, Tryd.ntmps52
  go_wp2_with (first | (refine wpList_field rfl _ _ _ rfl (by assumption) (by omega) rfl _ (by rfl) rfl _ rfl ?_ ?_; rotate_left; (intro wx hMx; have hMc := hMx.cells; obtain ⟨q0, q1, q2, q3, q4, q5, q6, q7, q8⟩ := hMc); rotate_left) | fail)
  · rw [set_ne]; simp [setK]
  · rw [set_ne]; simp [setK]
  · rw [set_data]; simp [setK]
  · rfl
  · rw [set_ne]; simp [setK]
  · rw [set_ne]; simp [setK]
  · rw [set_ne]; simp [setK]
  · rfl
  refine (HF.out _).mono ?_
  rintro e w1 ⟨⟨A, cap, rfl, hN⟩, hb1⟩
  rename_i wx hMx _ _ _ _ _ _ _ _ _
  clear HF hmm
  have HR : ∃ D : DataW Unit, w1.ownsMap Tryd.prog 67 (plainElem Tryd.prog 4) (w.heap.size + 1) 8 D ∧ Kept D f [] ∧ w.heap.size + 1 < wx.heap.size ∧ Below w.heap.size w w1 ∧ Nums w1 wx.heap.size A (fieldsK f.kind) := by
    obtain ⟨D, hD, hL, hBox, hBel⟩ := hMx
    exact ⟨D, Below.ownsMap hD hb1 hD.lt, hL.kept, hD.lt, hBel.trans (hb1.mono (Nat.le_of_lt hBox.lt)), hN⟩
  have hlen := fieldsK_len f.kind
  have hin := fieldsK_in f.kind
  have hall : ∀ D : DataW Unit, Kept D f (fieldsK f.kind) → ∀ left, Unset D left → (∀ kl, left kl = false) → unK f = false := fun D h left hu hl => h.miss hu hl
  have hhit : ∀ D : DataW Unit, Kept D f (fieldsK f.kind) → ∀ kl, (∀ z, D.atKey kl z = bF true) → unK f = true := fun D h kl hat => h.hit hat
  generalize fieldsK f.kind = l at *
  obtain ⟨D0, hD0, hKp0, hlt0, hB0, hN0⟩ := HR
  have HD0 := Lib.hid hD0
  have HN0 := Lib.hid hN0
  have HB0 := Lib.hid hB0
  have HKp0 := Lib.hid hKp0
  clear hD0 hN0 hB0 hKp0 hMx hN hb1
  go_wp2
  go_loopw [36] (fun x wr => ∃ (j : Nat) (D : DataW Unit), j ≤ l.length ∧ x = .int .i64 j ∧ wr.ownsMap Tryd.prog 67 (plainElem Tryd.prog 4) (w.heap.size + 1) 8 D ∧ Kept D f (l.take j) ∧ Nums wr wx.heap.size A l ∧ Below w.heap.size w wr) (fun x _ => l.length - (intOf x).toNat)
  case atStart => exact ⟨0, D0, Nat.zero_le _, rfl, HD0.out, HKp0.out, HN0.out, HB0.out⟩
  case round =>
    obtain ⟨j, D, hj, rfl, hD, hKp, hN, hB⟩ := hrel
    clear HD0 HN0 HB0 HKp0
    by_cases hlt : j < l.length
    · obtain ⟨ga, rfl, hga, hgs, hc⟩ := hN j hlt
      have hx := hin l[j] (List.getElem_mem hlt)
      have hKp1 := hKp.del l[j]
      have htk : l.take (j + 1) = l.take j ++ [l[j]] := by rw [List.take_add_one, List.getElem?_eq_getElem hlt]; rfl
      rw [← htk] at hKp1
      have HKp1 := Lib.hid hKp1
      have HN := Lib.hid hN
      have HB := Lib.hid hB
      generalize l[j] = y at *
      have hkey := keyOf_int_mk (P := Tryd.prog) Tryd.underlying67 (kF_wf y hx.1 hx.2)
      clear htk hKp1 hKp hN hB hx
      go_wp2_with (first | (at_delete; refine wpList_delete_own _ rfl _ _ 103 67 rfl 4 lawK Tryd.underlying103 _ (w.heap.size + 1) 8 D rfl hD _ _ rfl hkey ?_; intro w2 hD2 hT2) | fail)
      go_roundw
      case rel =>
        have hg2 := hT2.grown
        refine ⟨j + 1, _, hlt, by go_num, hD2, HKp1.out, HN.out.kept hg2.size fun g h1 h2 => hg2.block g h2 ?_, HB.out.grown hg2 HB.out.size fun i hi => ?_⟩
        · intro e
          have := Option.some.inj e
          omega
        · have := Option.some.inj hi
          omega
      case measure => simp [intOf]; omega
    · obtain rfl : j = l.length := by omega
      rw [List.take_of_length_le (Nat.le_refl _)] at hKp
      have HB := Lib.hid hB
      have HKp := Lib.hid hKp
      clear hB hKp hN hlt hj
      go_wp2_with (first | (at_range; refine wpList_range_own _ rfl _ 103 rfl 67 4 lawK Tryd.underlying103 _ (w.heap.size + 1) 8 D rfl hD ?_; intro w0 hrg0 hg0 hs0) | fail)
      go_frame
      have HS := Lib.hid (HB.out.grown hg0 HB.out.size (fun j hj => by cases hj))
      have hwr := HB.out.size
      generalize wr.heap.size = r at *
      clear HB hg0 hD hs0
      go_loopw [] (fun w2 => ∃ left cnt, w2.ranges Tryd.prog 67 (plainElem Tryd.prog 4) (w.heap.size + 1) r 8 D left cnt ∧ Unset D left ∧ Below w.heap.size w w2) (fun w2 => w2.rangeLeft (w.heap.size + 1) r)
      case atStart => exact ⟨_, _, hrg0, Unset.start D, HS.out⟩
      case round =>
        obtain ⟨left, cnt, hrg, hun, hb2⟩ := hrel
        clear HS hrg0
        have HUn := Lib.hid hun
        have HB2 := Lib.hid hb2
        clear hun hb2
        go_wp2_with (first
          | (at_next; refine wpList_next_field _ rfl _ rfl (w.heap.size + 1) r 8 D _ _ rfl hrg ?_ ?_ ?_)
          | fail)
        · intro hl0
          have HE := Lib.hid (hall D HKp.out _ HUn.out hl0)
          go_wp2
          go_ret
          exact ⟨by rw [HE.out]; rfl, HB2.out⟩
        · intro x kl w3 hat hg1 hen
          have HB3 := Lib.hid (HB2.out.grown hg1 HB2.out.size (fun i hi => by cases hi; exact hwr))
          have HE := Lib.hid (hhit D HKp.out kl hat)
          clear hat hall hhit hg1
          go_wp2
          go_ret
          exact ⟨by rw [HE.out]; rfl, HB3.out⟩
        · intro x kl w3 cnt1 hat hrg1 hlt hg1 hen
          have HB3 := Lib.hid (HB2.out.grown hg1 HB2.out.size (fun i hi => by cases hi; exact hwr))
          have HN3 := Lib.hid (HUn.out.next hat)
          clear hat hg1
          go_wp2
          go_roundw
          case rel => exact ⟨_, _, hrg1, HN3.out, HB3.out⟩
          case measure => rw [hrg1.left_eq, hrg.left_eq]; exact hlt
end Go.Proofs.YtjbppociogoopaaDoor
