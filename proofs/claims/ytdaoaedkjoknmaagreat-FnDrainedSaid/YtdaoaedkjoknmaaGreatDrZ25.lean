/-
  Contracts and lemmas for the law on draining.
-/
import Derived.Test.YtdaoaedkjoknmaaGreatDrZ0
import Derived.Test.YtdaoaedkjoknmaaGreatDrZ20
import Derived.Test.YtdaoaedkjoknmaaGreatDrZ6
import Derived.Test.YtdaoaedkjoknmaaGreatDrZ2
set_option maxRecDepth 1000000
set_option maxHeartbeats 8000000
namespace Go.Proofs.YtdaoaedkjoknmaaGreat
open Go.RowKit Go.Deep Go.Proofs.YtdaoaedkjoknmaaGreat.Num

theorem Chs.take {w : World} {B : Nat} {A : Option Addr} {l : List Ch} (h : Chs w B A l) (k : Nat) : Chs w B A (l.take k) := by
  intro j hj
  have hj' : j < l.length := by rw [List.length_take] at hj; omega
  obtain ⟨b, off, hA, hlt, h1⟩ := h j hj'
  refine ⟨b, off, hA, hlt, fun i hi => ?_⟩
  rw [List.getElem_take]
  exact h1 i hi
theorem Chs.drop {w : World} {B b off : Nat} {l : List Ch} (h : Chs w B (some ⟨b, off, none⟩) l) (k : Nat) : Chs w B (some ⟨b, off + k * 2, none⟩) (l.drop k) := by
  intro j hj
  have hj' : k + j < l.length := by rw [List.length_drop] at hj; omega
  obtain ⟨b', off', hA, hlt, h1⟩ := h (k + j) hj'
  injection hA with hA
  injection hA with e1 e2 _
  subst e1
  subst e2
  refine ⟨b, off + k * 2, rfl, hlt, fun i hi => ?_⟩
  rw [List.getElem_drop]
  have := h1 i hi
  rwa [show off + (k + j) * 2 + i = off + k * 2 + j * 2 + i by omega] at this
theorem append_full (W : World) (ty : TypeId) (base : Nat) (A : Option Addr) (n B : Nat) (l : List Ch) (hl : l.length = n) (hr : Chs W B A l)
    (g off m c B' : Nat) (r : List Ch) (hm : r.length = m) (hm0 : 0 < m) (hr' : Chs W B' (some ⟨g, off, none⟩) r) (hlen : n + m ≤ 1000000000) (hbase : base ≤ W.heap.size) :
    ∃ v' w', (Builtin.append_ #[36, 36] ty #[.slice A n n, .slice (some ⟨g, off, none⟩) m c]).run Tryz.prog W = .ok v' w' ∧ OwnC w' base v' (l ++ r) ∧ Below W.heap.size W w' := by
  subst hl
  subst hm
  obtain ⟨i0, hi, hz0, hz1, hz2⟩ := info_parts infoC
  have hv : (valsC (l ++ r)).length = (l.length + r.length) * 2 := by rw [valsC_len, List.length_append]
  have key : ∀ (old : Nat) (cs : Array Value), cs = (valsC l).toArray ++ (valsC r).toArray ++ Builtin.zeroCells (chV ch0).cells (grownCap W (l.length + r.length) old 140 - (l.length + r.length)) →
      OwnC (W.drew.alloc (.cells cs 140)) base (.slice (some ⟨W.heap.size, 0, none⟩) (l.length + r.length) (grownCap W (l.length + r.length) old 140)) (l ++ r) ∧ Below W.heap.size W (W.drew.alloc (.cells cs 140)) := by
    intro old cs hcs
    have hge := grownCap_ge W (l.length + r.length) old 140
    have hcm : grownCap W (l.length + r.length) old 140 ≤ maxLen := grownCap_le_maxLen W (l.length + r.length) old _ (by unfold maxLen; omega)
    refine ⟨?_, (Below.refl _ _).drew.alloc (Nat.le_refl _) _⟩
    unfold OwnC
    rw [List.length_append]
    refine ⟨hv, .inr ⟨W.heap.size, _, cs, rfl, hbase, heap_alloc_new W.drew _, hge, hcm, ?_, ?_⟩⟩
    · rw [hcs, Array.size_append, Array.size_append, List.size_toArray, List.size_toArray, size_zeroCells, valsC_len, valsC_len]
      show _ + _ + _ * 2 = _
      omega
    · rw [hcs, Array.toList_append, Array.toList_append, ← hv, valsC_append]
      exact List.take_left
  cases A with
  | none =>
    have hl0 : l = [] := by
      cases l with
      | nil => rfl
      | cons x l => obtain ⟨b, o, hA, _⟩ := hr.cells 0 (Nat.succ_pos _); cases hA
    subst hl0
    have h := run_append_nil (P := Tryz.prog) W 36 ty 140 i0 (chV ch0) Tryz.underlying36 hi hz0 ⟨g, off, none⟩ r.length c (valsC r) (by rw [valsC_len, hz1]) hr'.flat hm0 (by omega) (by rw [hz2]; omega)
    refine ⟨_, _, h, ?_⟩
    have hk := key 0 _ rfl
    simp only [List.length_nil, Nat.zero_add] at hk
    have e : (valsC []).toArray ++ (valsC r).toArray = (valsC r).toArray := by simp [valsC]
    rw [e] at hk
    exact hk
  | some a =>
    have hold : ∀ j v, (valsC l)[j]? = some v → W.cell? (a.add j) = some v := by
      cases l with
      | nil => intro j v hv; simp [valsC] at hv
      | cons x l =>
        obtain ⟨b, o, hA, _⟩ := hr.cells 0 (Nat.succ_pos _)
        injection hA with hA
        subst hA
        exact hr.flat
    have h := run_append_grow (P := Tryz.prog) W 36 ty 140 i0 (chV ch0) Tryz.underlying36 hi hz0 a l.length l.length (valsC l) (by rw [valsC_len, hz1]) hold ⟨g, off, none⟩ r.length c (valsC r) (by rw [valsC_len, hz1]) hr'.flat (by omega) (by omega) (growslice_fits (by omega) (by rw [hz2]; omega))
    exact ⟨_, _, h, key l.length _ rfl⟩
theorem step_append_full {ops : Array Oper} {o : Oper} {a : Act} {K : Act → World → Prop} {Q : Exit → Act → World → Prop} {E : Prop} (W : World) (hgd : o.guard = none) (s x : Operand)
    (ho : o.op = .call { callee := .builtin .append, args := #[s, x], argTypes := #[36, 36] })
    (base : Nat) (A : Option Addr) (n B : Nat) (l : List Ch) (g off m c B' : Nat) (r : List Ch) (hs : a.eval s = .slice A n n) (hl : l.length = n) (hr : Chs W B A l) (hx : a.eval x = .slice (some ⟨g, off, none⟩) m c)
    (hm : r.length = m) (hr' : Chs W B' (some ⟨g, off, none⟩) r) (hlen : 0 < m ∧ n + m ≤ 1000000000) (hbase : base ≤ W.heap.size)
    (h : ∀ v' w', OwnC w' base v' (l ++ r) → Below W.heap.size W w' → K (a.put o.dst v') w') :
    if Region.wanted o (yielded ops a.tmps) = true then Oper.wp Tryz.prog o a W K Q else E := by
  have hw : Region.wanted o (yielded ops a.tmps) = true := by simp [Region.wanted, hgd]
  rw [if_pos hw]
  obtain ⟨v', w', hrun, h1, h2⟩ := append_full W o.type base A n B l hl hr g off m c B' r hm hlen.1 hr' hlen.2 hbase
  unfold Oper.wp execOp
  simp only [ho, resolve, invoke, builtin, Sem.run_bind, Sem.run_pure, Result.andThen_ok, List.map_toArray, List.map_cons, List.map_nil, hs, hx, hrun]
  exact h v' w' h1 h2

def PutsC (c : Ch) (l out : List Ch) : Prop := ∃ (L1 R L2 : List Ch) (J : Ch), l = L1 ++ (R ++ L2) ∧ (∀ x ∈ L1, x.off + (x.data.size : Int) < c.off) ∧
  (∀ x ∈ R, x.off ≤ c.off + (c.data.size : Int) ∧ c.off ≤ x.off + (x.data.size : Int)) ∧ (∀ x ∈ L2, c.off + (c.data.size : Int) < x.off) ∧ Joins c R J ∧ out = L1 ++ J :: L2
theorem iputc (c : Ch) (l : List Ch) (A : Option Addr) (cap B : Nat) (w : World) (hB : B ≤ w.heap.size) (hr : Chs w B A l) (hn : l.length ≤ 100000000) (hcap : l.length ≤ cap) (p : Int) (hp : -1 ≤ p) (hok : okR p (l.map ckR))
    (hc0 : 0 ≤ c.off) (hc1 : c.off + (c.data.size : Int) ≤ 4611686018427387903) (hcz : 0 < c.data.size) (hsz : c.data.size ≤ 4000000 ∧ ∀ x ∈ l, x.data.size ≤ 4000000) :
    Calls Tryz.prog 109 #[.slice A l.length cap, chV c] w fun e w' => ∃ v, e = .returned v ∧ ∃ out, PutsC c l out ∧ OwnC w' w.heap.size v out ∧ Below w.heap.size w w' := by
  have HR := LH hr
  have hin : ∀ x ∈ l, p < x.off ∧ x.off < x.off + (x.data.size : Int) ∧ x.off + (x.data.size : Int) ≤ 4611686018427387903 := fun x hx => okR.below hok (ckR x) (List.mem_map_of_mem hx)
  have HK2 := LH (HeldK.start w c 140)
  have HRC := LH (ireached c l A cap B _ (Nat.le_trans hB HK2.out.2.2.size) (hr.below hB HK2.out.2.2) (by omega) (fun x hx => by have := hin x hx; omega) ⟨hc0, hc1⟩)
  obtain ⟨q0, q1⟩ := HK2.out.1
  have HOK := LH hok
  have HSZ := LH hsz
  have HCC : Hid (0 ≤ c.off ∧ c.off + (c.data.size : Int) ≤ 4611686018427387903 ∧ 0 < c.data.size) := LH ⟨hc0, hc1, hcz⟩
  clear hr hin hok hsz hc0 hc1 hcz
  go_enter Tryz.func109, Tryz.ntmps109
  go_wp2_with fail
  refine HRC.out.mono ?_
  rintro e w2 ⟨lo, hi, rfl, hlh, hhl, hp1, hp2, hp3, hp4, hb2⟩
  have HK3 := LH (HK2.out.next hb2)
  have hrp := reach_parts HOK.out lo hi c.off (c.off + (c.data.size : Int)) hlh hhl (fun h hx => by have := hp2 hx; omega) hp4
  have HP1 : Hid (∀ x ∈ l.take lo, x.off + (x.data.size : Int) < c.off) := LH fun x hx => by
    obtain ⟨j, hj, rfl⟩ := List.getElem_of_mem hx
    rw [List.length_take] at hj
    rw [List.getElem_take]
    exact hp1 j (by omega) (by omega)
  have HP2 : Hid (∀ x ∈ (l.drop lo).take (hi - lo), x.off ≤ c.off + (c.data.size : Int) ∧ c.off ≤ x.off + (x.data.size : Int)) := LH fun x hx => ⟨by
    obtain ⟨j, hj, rfl⟩ := List.getElem_of_mem hx
    rw [List.length_take, List.length_drop] at hj
    rw [List.getElem_take, List.getElem_drop]
    exact hp3 (lo + j) (by omega) (by omega) (by omega), hrp.2.1 x hx⟩
  have HP3 := LH hrp.2.2
  have HLE := LH hrp.1
  have HSS : Hid (∀ W, Below w2.heap.size w2 W → W.cell? ⟨w.heap.size, 0, none⟩ = some (.int .i64 c.off) ∧ W.cell? ⟨w.heap.size, 1, none⟩ = some (.string c.data)) := LH fun W h => (HK3.out.next h).1
  have hw2 : w.heap.size < w2.heap.size := HK3.out.2.1
  have HR2 : Hid (∀ W, Below w2.heap.size w2 W → Chs W B A l) := LH fun W h => HR.out.below hB (HK3.out.next h).2.2
  have HLW : Hid (∀ W, Below w2.heap.size w2 W → Chs W B A (l.take lo)) := LH fun W h => (HR2.out W h).take lo
  have HLL : Hid ((l.take lo).length = lo) := LH (by rw [List.length_take]; omega)
  have HMN : Hid (min lo l.length = lo) := LH (by omega)
  have HLN : Hid (0 < 1 ∧ lo + 1 ≤ 1000000000) := LH ⟨by omega, by omega⟩
  have hlc : lo ≤ cap := by omega
  have hhc : hi ≤ cap := by omega
  clear hb2 hp1 hp2 hp3 hp4 hrp HRC HK2 q0 q1
  obtain ⟨q0, q1⟩ := HK3.out.1
  have i0 : (0 : Int) ≤ (lo : Int) := by omega
  have i1 : (lo : Int) ≤ (cap : Int) := by omega
  have i2 : (lo : Int) ≤ (hi : Int) := by omega
  have i3 : (hi : Int) ≤ (cap : Int) := by omega
  have i4 : (0 : Int) ≤ (hi : Int) := by omega
  have i5 : (hi : Int) ≤ (l.length : Int) := by omega
  go_upto_region 2 with fail
  go_cut [7] (fun v wx => ∃ J, Joins c ((l.drop lo).take (hi - lo)) J ∧ OwnC wx w2.heap.size v (l.take lo ++ [J]) ∧ Below w2.heap.size w2 wx)
  case first =>
    have HT := LH (Below.refl w2.heap.size w2).drew
    have HS := LH (HSS.out _ HT.out)
    by_cases hR : lo = hi
    · subst hR
      have HRE : Hid ((l.drop lo).take (lo - lo) = []) := LH (by rw [Nat.sub_self, List.take_zero])
      cases A with
      | none =>
        by_cases hcl : cap = lo
        · subst hcl
          clear HP1 HP2 HP3
          go_region_held3 (fun W => W.cell? ⟨w.heap.size, 0, none⟩ = some (.int .i64 c.off) ∧ W.cell? ⟨w.heap.size, 1, none⟩ = some (.string c.data)) (first | with_reducible exact HS.out | with_reducible exact HS2.out | with_reducible exact HS3.out) (first | (go_at_call 137; refine (ijoin_none c _ _ _).mono ?_; rintro e w4 ⟨rfl, hb4⟩; have HJN := LH (Joins.none c); have HT := LH (HT.out.trans (hb4.mono HT.out.size)); have HS := LH (HSS.out _ HT.out); have HT2 := LH (HT.out.alloc HT.out.size (.cells (chC c) 140)); have HS2 := LH (HSS.out _ HT2.out); have HCH := LH (chs_one w4 c 140); have HRL := LH (HLW.out _ HT2.out); have hz4 : (w4.alloc (.cells (chC c) 140)).heap.size = w4.heap.size + 1 := (by simp); have HZ4 := LH (Nat.le_trans HT.out.size (Nat.le_trans (Nat.le_succ _) (Nat.le_of_eq hz4.symm))); clear hb4 hz4) | (refine step_append_full _ rfl _ _ rfl w2.heap.size _ _ _ _ w4.heap.size 0 1 1 _ [c] rfl HLL.out HRL.out rfl rfl HCH.out HLN.out HZ4.out ?_; intro v' w' hown' hbel; obtain ⟨A5, c5, rfl, _, _⟩ := hown'.frs; have HOW := LH hown'; have HT3 := LH (HT2.out.trans (hbel.mono HT2.out.size)); have HS3 := LH (HSS.out _ HT3.out); clear hown' hbel))
          all_goals (
            go_wp2
            go_meet
            exact ⟨c, by first | exact HJN.out | (rw [HRE.out]; exact HJN.out), by first | exact HOW.out | (rw [List.length_append, HLL.out] at HOW; first | exact HOW.out | (rw [HMN.out]; exact HOW.out)), HT3.out⟩)
        · have hlc0 : ¬ lo = cap := fun h => hcl h.symm
          clear HP1 HP2 HP3
          go_region_held3 (fun W => W.cell? ⟨w.heap.size, 0, none⟩ = some (.int .i64 c.off) ∧ W.cell? ⟨w.heap.size, 1, none⟩ = some (.string c.data)) (first | with_reducible exact HS.out | with_reducible exact HS2.out | with_reducible exact HS3.out) (first | (go_at_call 137; refine (ijoin_none c _ _ _).mono ?_; rintro e w4 ⟨rfl, hb4⟩; have HJN := LH (Joins.none c); have HT := LH (HT.out.trans (hb4.mono HT.out.size)); have HS := LH (HSS.out _ HT.out); have HT2 := LH (HT.out.alloc HT.out.size (.cells (chC c) 140)); have HS2 := LH (HSS.out _ HT2.out); have HCH := LH (chs_one w4 c 140); have HRL := LH (HLW.out _ HT2.out); have hz4 : (w4.alloc (.cells (chC c) 140)).heap.size = w4.heap.size + 1 := (by simp); have HZ4 := LH (Nat.le_trans HT.out.size (Nat.le_trans (Nat.le_succ _) (Nat.le_of_eq hz4.symm))); clear hb4 hz4) | (refine step_append_full _ rfl _ _ rfl w2.heap.size _ _ _ _ w4.heap.size 0 1 1 _ [c] rfl HLL.out HRL.out rfl rfl HCH.out HLN.out HZ4.out ?_; intro v' w' hown' hbel; obtain ⟨A5, c5, rfl, _, _⟩ := hown'.frs; have HOW := LH hown'; have HT3 := LH (HT2.out.trans (hbel.mono HT2.out.size)); have HS3 := LH (HSS.out _ HT3.out); clear hown' hbel))
          all_goals (
            go_wp2
            go_meet
            exact ⟨c, by first | exact HJN.out | (rw [HRE.out]; exact HJN.out), by first | exact HOW.out | (rw [List.length_append, HLL.out] at HOW; first | exact HOW.out | (rw [HMN.out]; exact HOW.out)), HT3.out⟩)
      | some a =>
        by_cases hl0 : lo = 0
        · subst hl0
          by_cases hcl : cap = 0
          · subst hcl
            clear HP1 HP2 HP3
            go_region_held3 (fun W => W.cell? ⟨w.heap.size, 0, none⟩ = some (.int .i64 c.off) ∧ W.cell? ⟨w.heap.size, 1, none⟩ = some (.string c.data)) (first | with_reducible exact HS.out | with_reducible exact HS2.out | with_reducible exact HS3.out) (first | (go_at_call 137; refine (ijoin_none c _ _ _).mono ?_; rintro e w4 ⟨rfl, hb4⟩; have HJN := LH (Joins.none c); have HT := LH (HT.out.trans (hb4.mono HT.out.size)); have HS := LH (HSS.out _ HT.out); have HT2 := LH (HT.out.alloc HT.out.size (.cells (chC c) 140)); have HS2 := LH (HSS.out _ HT2.out); have HCH := LH (chs_one w4 c 140); have HRL := LH (HLW.out _ HT2.out); have hz4 : (w4.alloc (.cells (chC c) 140)).heap.size = w4.heap.size + 1 := (by simp); have HZ4 := LH (Nat.le_trans HT.out.size (Nat.le_trans (Nat.le_succ _) (Nat.le_of_eq hz4.symm))); clear hb4 hz4) | (refine step_append_full _ rfl _ _ rfl w2.heap.size _ _ _ _ w4.heap.size 0 1 1 _ [c] rfl HLL.out HRL.out rfl rfl HCH.out HLN.out HZ4.out ?_; intro v' w' hown' hbel; obtain ⟨A5, c5, rfl, _, _⟩ := hown'.frs; have HOW := LH hown'; have HT3 := LH (HT2.out.trans (hbel.mono HT2.out.size)); have HS3 := LH (HSS.out _ HT3.out); clear hown' hbel))
            all_goals (
              go_wp2
              go_meet
              exact ⟨c, by first | exact HJN.out | (rw [HRE.out]; exact HJN.out), by first | exact HOW.out | (rw [List.length_append, HLL.out] at HOW; first | exact HOW.out | (rw [HMN.out]; exact HOW.out)), HT3.out⟩)
          · have hlc0 : ¬ 0 = cap := fun h => hcl h.symm
            clear HP1 HP2 HP3
            go_region_held3 (fun W => W.cell? ⟨w.heap.size, 0, none⟩ = some (.int .i64 c.off) ∧ W.cell? ⟨w.heap.size, 1, none⟩ = some (.string c.data)) (first | with_reducible exact HS.out | with_reducible exact HS2.out | with_reducible exact HS3.out) (first | (go_at_call 137; refine (ijoin_none c _ _ _).mono ?_; rintro e w4 ⟨rfl, hb4⟩; have HJN := LH (Joins.none c); have HT := LH (HT.out.trans (hb4.mono HT.out.size)); have HS := LH (HSS.out _ HT.out); have HT2 := LH (HT.out.alloc HT.out.size (.cells (chC c) 140)); have HS2 := LH (HSS.out _ HT2.out); have HCH := LH (chs_one w4 c 140); have HRL := LH (HLW.out _ HT2.out); have hz4 : (w4.alloc (.cells (chC c) 140)).heap.size = w4.heap.size + 1 := (by simp); have HZ4 := LH (Nat.le_trans HT.out.size (Nat.le_trans (Nat.le_succ _) (Nat.le_of_eq hz4.symm))); clear hb4 hz4) | (refine step_append_full _ rfl _ _ rfl w2.heap.size _ _ _ _ w4.heap.size 0 1 1 _ [c] rfl HLL.out HRL.out rfl rfl HCH.out HLN.out HZ4.out ?_; intro v' w' hown' hbel; obtain ⟨A5, c5, rfl, _, _⟩ := hown'.frs; have HOW := LH hown'; have HT3 := LH (HT2.out.trans (hbel.mono HT2.out.size)); have HS3 := LH (HSS.out _ HT3.out); clear hown' hbel))
            all_goals (
              go_wp2
              go_meet
              exact ⟨c, by first | exact HJN.out | (rw [HRE.out]; exact HJN.out), by first | exact HOW.out | (rw [List.length_append, HLL.out] at HOW; first | exact HOW.out | (rw [HMN.out]; exact HOW.out)), HT3.out⟩)
        · obtain ⟨b, off, hA, -, -⟩ := (HR2.out w2 (Below.refl _ _)).cells 0 (by omega)
          injection hA with hA
          subst hA
          by_cases hcl : cap = lo
          · subst hcl
            clear HP1 HP2 HP3
            go_region_held3 (fun W => W.cell? ⟨w.heap.size, 0, none⟩ = some (.int .i64 c.off) ∧ W.cell? ⟨w.heap.size, 1, none⟩ = some (.string c.data)) (first | with_reducible exact HS.out | with_reducible exact HS2.out | with_reducible exact HS3.out) (first | (go_at_call 137; refine (ijoin_none c _ _ _).mono ?_; rintro e w4 ⟨rfl, hb4⟩; have HJN := LH (Joins.none c); have HT := LH (HT.out.trans (hb4.mono HT.out.size)); have HS := LH (HSS.out _ HT.out); have HT2 := LH (HT.out.alloc HT.out.size (.cells (chC c) 140)); have HS2 := LH (HSS.out _ HT2.out); have HCH := LH (chs_one w4 c 140); have HRL := LH (HLW.out _ HT2.out); have hz4 : (w4.alloc (.cells (chC c) 140)).heap.size = w4.heap.size + 1 := (by simp); have HZ4 := LH (Nat.le_trans HT.out.size (Nat.le_trans (Nat.le_succ _) (Nat.le_of_eq hz4.symm))); clear hb4 hz4) | (refine step_append_full _ rfl _ _ rfl w2.heap.size _ _ _ _ w4.heap.size 0 1 1 _ [c] rfl HLL.out HRL.out rfl rfl HCH.out HLN.out HZ4.out ?_; intro v' w' hown' hbel; obtain ⟨A5, c5, rfl, _, _⟩ := hown'.frs; have HOW := LH hown'; have HT3 := LH (HT2.out.trans (hbel.mono HT2.out.size)); have HS3 := LH (HSS.out _ HT3.out); clear hown' hbel))
            all_goals (
              go_wp2
              go_meet
              exact ⟨c, by first | exact HJN.out | (rw [HRE.out]; exact HJN.out), by first | exact HOW.out | (rw [List.length_append, HLL.out] at HOW; first | exact HOW.out | (rw [HMN.out]; exact HOW.out)), HT3.out⟩)
          · have hlc0 : ¬ lo = cap := fun h => hcl h.symm
            clear HP1 HP2 HP3
            go_region_held3 (fun W => W.cell? ⟨w.heap.size, 0, none⟩ = some (.int .i64 c.off) ∧ W.cell? ⟨w.heap.size, 1, none⟩ = some (.string c.data)) (first | with_reducible exact HS.out | with_reducible exact HS2.out | with_reducible exact HS3.out) (first | (go_at_call 137; refine (ijoin_none c _ _ _).mono ?_; rintro e w4 ⟨rfl, hb4⟩; have HJN := LH (Joins.none c); have HT := LH (HT.out.trans (hb4.mono HT.out.size)); have HS := LH (HSS.out _ HT.out); have HT2 := LH (HT.out.alloc HT.out.size (.cells (chC c) 140)); have HS2 := LH (HSS.out _ HT2.out); have HCH := LH (chs_one w4 c 140); have HRL := LH (HLW.out _ HT2.out); have hz4 : (w4.alloc (.cells (chC c) 140)).heap.size = w4.heap.size + 1 := (by simp); have HZ4 := LH (Nat.le_trans HT.out.size (Nat.le_trans (Nat.le_succ _) (Nat.le_of_eq hz4.symm))); clear hb4 hz4) | (refine step_append_full _ rfl _ _ rfl w2.heap.size _ _ _ _ w4.heap.size 0 1 1 _ [c] rfl HLL.out HRL.out rfl rfl HCH.out HLN.out HZ4.out ?_; intro v' w' hown' hbel; obtain ⟨A5, c5, rfl, _, _⟩ := hown'.frs; have HOW := LH hown'; have HT3 := LH (HT2.out.trans (hbel.mono HT2.out.size)); have HS3 := LH (HSS.out _ HT3.out); clear hown' hbel))
            all_goals (
              go_wp2
              go_meet
              exact ⟨c, by first | exact HJN.out | (rw [HRE.out]; exact HJN.out), by first | exact HOW.out | (rw [List.length_append, HLL.out] at HOW; first | exact HOW.out | (rw [HMN.out]; exact HOW.out)), HT3.out⟩)
    · obtain ⟨b, off, hA, -, -⟩ := (HR2.out w2 (Below.refl _ _)).cells 0 (by omega)
      subst hA
      have hcl : ¬ cap = lo := by omega
      have hlc0 : ¬ lo = cap := by omega
      have HRR : Hid (((l.drop lo).take (hi - lo)).length = hi - lo) := LH (by rw [List.length_take, List.length_drop]; omega)
      have HRP : Hid (0 < ((l.drop lo).take (hi - lo)).length) := LH (by rw [HRR.out]; omega)
      have HRM : Hid (∀ x ∈ (l.drop lo).take (hi - lo), x ∈ l) := LH fun x hx => List.mem_of_mem_drop (List.mem_of_mem_take hx)
      have HRK : Hid (∃ q, -1 ≤ q ∧ okR q (((l.drop lo).take (hi - lo)).map ckR)) := LH (by
        have h := HOK.out
        rw [HLE.out, List.map_append, List.map_append] at h
        obtain ⟨q, hq1, hq2⟩ := okR.tail h
        exact ⟨q, by omega, hq2.prefix⟩)
      have HJC : Hid (∀ (cc : Nat) W, Below w2.heap.size w2 W → Calls Tryz.prog 137 #[chV c, .slice (some ⟨b, off + lo * 2, none⟩) (hi - lo) cc] W fun e w' => ∃ J, e = .returned (chV J) ∧ Joins c ((l.drop lo).take (hi - lo)) J ∧ Below W.heap.size W w') := LH fun cc W h => by
        obtain ⟨q, hq1, hq2⟩ := HRK.out
        have h3 := ijoin_some c ((l.drop lo).take (hi - lo)) (some ⟨b, off + lo * 2, none⟩) cc B W (Nat.le_trans hB (HK3.out.next h).2.2.size) (((HR2.out W h).drop lo).take _) (by rw [HRR.out]; omega) HRP.out q hq1 hq2 HCC.out.1 HCC.out.2.1 HCC.out.2.2 ⟨HSZ.out.1, fun x hx => HSZ.out.2 x (HRM.out x hx)⟩ HP2.out
        rw [HRR.out] at h3
        exact h3
      clear HRR HRP HRM HRK
      clear HP1 HP2 HP3
      go_region_held3 (fun W => W.cell? ⟨w.heap.size, 0, none⟩ = some (.int .i64 c.off) ∧ W.cell? ⟨w.heap.size, 1, none⟩ = some (.string c.data)) (first | with_reducible exact HS.out | with_reducible exact HS2.out | with_reducible exact HS3.out) (first | (go_at_call 137; refine (HJC.out _ _ HT.out).mono ?_; rintro e w4 ⟨J, rfl, hjn, hb4⟩; have HJN := LH hjn; clear hjn; have HT := LH (HT.out.trans (hb4.mono HT.out.size)); have HS := LH (HSS.out _ HT.out); have HT2 := LH (HT.out.alloc HT.out.size (.cells (chC J) 140)); have HS2 := LH (HSS.out _ HT2.out); have HCH := LH (chs_one w4 J 140); have HRL := LH (HLW.out _ HT2.out); have hz4 : (w4.alloc (.cells (chC J) 140)).heap.size = w4.heap.size + 1 := (by simp); have HZ4 := LH (Nat.le_trans HT.out.size (Nat.le_trans (Nat.le_succ _) (Nat.le_of_eq hz4.symm))); clear hb4 hz4) | (refine step_append_full _ rfl _ _ rfl w2.heap.size _ _ _ _ w4.heap.size 0 1 1 _ [J] rfl HLL.out HRL.out rfl rfl HCH.out HLN.out HZ4.out ?_; intro v' w' hown' hbel; obtain ⟨A5, c5, rfl, _, _⟩ := hown'.frs; have HOW := LH hown'; have HT3 := LH (HT2.out.trans (hbel.mono HT2.out.size)); have HS3 := LH (HSS.out _ HT3.out); clear hown' hbel))
      all_goals (
        go_wp2
        go_meet
        exact ⟨J, by first | exact HJN.out | (rw [HRE.out]; exact HJN.out), by first | exact HOW.out | (rw [List.length_append, HLL.out] at HOW; first | exact HOW.out | (rw [HMN.out]; exact HOW.out)), HT3.out⟩)
  case rest =>
    obtain ⟨J, hj, ho, hb⟩ := hcut
    have HJ := LH hj
    have HO := LH ho
    have HBC := LH hb
    have hbs := hb.size
    have HB := LH (HK3.out.2.2.trans (hb.mono (Nat.le_of_lt hw2)))
    clear hj ho hb q0 q1
    by_cases hhi : hi = l.length
    · subst hhi
      have HD : Hid (l.drop l.length = []) := LH (List.drop_length ..)
      obtain ⟨A5, c5, rfl, hle5, _⟩ := HO.out.frs
      rw [show (l.take lo ++ [J]).length = lo + 1 by rw [List.length_append, HLL.out]; rfl] at HO
      go_wp2_with (at_builtin; refine wpList_append_chno _ rfl _ _ rfl _ _ _ _ _ rfl hle5 rfl ?_)
      all_goals (
        go_ret
        exact ⟨_, rfl, _, ⟨l.take lo, _, _, J, HLE.out, HP1.out, HP2.out, HP3.out, HJ.out, rfl⟩, by rw [HD.out]; exact ownc_weaken HO.out (Nat.le_of_lt hw2), HB.out⟩)
    · obtain ⟨b, off, hA, -, -⟩ := (HR2.out wc HBC.out).cells 0 (by omega)
      have hch : ¬ cap = hi := by omega
      have hch2 : ¬ hi = cap := by omega
      subst hA
      have HRT := LH ((HR2.out wc HBC.out).drop hi)
      have HDL : Hid ((l.drop hi).length = l.length - hi) := LH (List.length_drop ..)
      have HLT : Hid ((l.take lo ++ [J]).length + (l.length - hi) ≤ 100000000000) := LH (by rw [List.length_append, HLL.out]; show lo + 1 + _ ≤ _; omega)
      go_wp2_with (at_builtin; refine wpList_append_ch _ rfl _ _ rfl w2.heap.size _ (l.take lo ++ [J]) rfl HO.out b (off + hi * 2) (l.length - hi) _ _ (l.drop hi) rfl HDL.out HRT.out HLT.out hbs ?_; intro v' w' hown' hbel)
      go_ret
      exact ⟨_, rfl, _, ⟨l.take lo, _, _, J, HLE.out, HP1.out, HP2.out, HP3.out, HJ.out, rfl⟩, by have h := hown'; rw [List.append_assoc] at h; exact ownc_weaken h (Nat.le_of_lt hw2), HB.out.trans (hbel.mono (by omega))⟩
end Go.Proofs.YtdaoaedkjoknmaaGreat
