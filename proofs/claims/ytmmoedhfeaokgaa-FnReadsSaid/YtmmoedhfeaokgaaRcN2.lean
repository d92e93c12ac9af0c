/-
  Plain facts: what a receiver takes, loses and gives leaves it valid. No program is imported.
-/
import Derived.Test.YtmmoedhfeaokgaaRcN
namespace Go.Proofs.Ytmmoedhfeaokgaa.Num

/-- An insert raises the end to its own at most. -/
theorem end_ins_le {b : Bf} {o : Int} {d : ByteArray} (h : okB b) : endB (insB b o d) ≤ max (endB b) (o + d.size) := by
  by_cases hc : canI b o d
  · have hy := insB_ok b o d h
    have hge := endB_ge h
    cases hz : (insB b o d).chs.getLast? with
    | none =>
      have e : endB (insB b o d) = (insB b o d).next := by unfold endB; rw [if_pos hy, hz]
      rw [e, insB_next]
      omega
    | some z =>
      have hzm := List.mem_of_getLast? hz
      have e : endB (insB b o d) = z.off + z.data.size := by unfold endB; rw [if_pos hy, hz]
      have h4 := okR.below hy.1 (ckR z) (List.mem_map_of_mem hzm)
      have h6 : z.off < z.off + (z.data.size : Int) := h4.2.1
      have hb : 0 ≤ byteB (insB b o d).chs (endB (insB b o d) - 1) := (byteB_has _ _ (by have := hy.2; omega) hy.1 _).2 ⟨ckR z, List.mem_map_of_mem hzm, by show z.off ≤ _ - 1; omega, by show _ - 1 < z.off + z.data.size; omega⟩
      rw [insB_byte b o d hc] at hb
      by_cases h0 : 0 ≤ byteB b.chs (endB (insB b o d) - 1)
      · obtain ⟨r, hr, _, h1⟩ := (byteB_has _ _ (by have := h.2; omega) h.1 _).1 h0
        obtain ⟨c, hcm, rfl⟩ := List.mem_map.1 hr
        have h7 := endB_max h c hcm
        have h8 : endB (insB b o d) - 1 < c.off + (c.data.size : Int) := h1
        omega
      · rw [if_neg h0] at hb
        by_cases h1 : max o b.next ≤ endB (insB b o d) - 1 ∧ endB (insB b o d) - 1 < o + d.size
        · omega
        · rw [if_neg h1] at hb
          omega
  · rw [show insB b o d = b from if_neg hc]
    omega
theorem drop_size (c : Ch) (n : Nat) : (⟨(c.data.data.toList.drop n).toArray⟩ : ByteArray).size = c.data.size - n := by
  show (c.data.data.toList.drop n).toArray.size = _
  simp
/-- What taking leaves: its end, what is ready. -/
theorem drop_facts {b : Bf} (h : okB b) (m : Int) : endB (dropT b (cntT b m)) ≤ endB b ∧ (dropT b (cntT b m)).next + (rdyB (dropT b (cntT b m)) : Int) = b.next + rdyB b ∧ (dropT b (cntT b m)).next = b.next + cntT b m ∧ (b.chs = [] → (dropT b (cntT b m)).chs = []) := by
  have hok := dropT_ok b m h
  by_cases h0 : cntT b m = 0
  · rw [h0, show dropT b 0 = b from if_pos rfl]
    exact ⟨Int.le_refl _, rfl, by simp, fun x => x⟩
  · have hr : rdyB b ≠ 0 := by unfold cntT at h0; omega
    obtain ⟨_, c, l, hl, hn, hs⟩ := rdyB_pos hr
    have hle : cntT b m ≤ c.data.size := by unfold cntT; omega
    generalize cntT b m = n at *
    have he := endB_max h
    have hec := he c (by rw [hl]; exact List.mem_cons_self ..)
    have hd : dropT b n = ⟨b.next + n, if n = c.data.size then l else ⟨b.next + n, ⟨(c.data.data.toList.drop n).toArray⟩⟩ :: l⟩ := by
      unfold dropT
      rw [if_neg h0, hl]
    rw [hd] at hok ⊢
    have h1 := h.1
    rw [hl] at h1
    have h3 : okR (c.off + c.data.size) (l.map ckR) := h1.2.2.2
    refine ⟨?_, ?_, rfl, fun x => by rw [x] at hl; cases hl⟩
    · unfold endB
      rw [if_pos hok]
      show (match (if n = c.data.size then l else ⟨b.next + n, ⟨(c.data.data.toList.drop n).toArray⟩⟩ :: l).getLast? with | none => b.next + (n : Int) | some c => c.off + c.data.size) ≤ _
      cases hz : (if n = c.data.size then l else ⟨b.next + n, ⟨(c.data.data.toList.drop n).toArray⟩⟩ :: l).getLast? with
      | none =>
        show b.next + (n : Int) ≤ endB b
        omega
      | some z =>
        have hzm := List.mem_of_getLast? hz
        show z.off + (z.data.size : Int) ≤ endB b
        by_cases hnc : n = c.data.size
        · rw [if_pos hnc] at hzm
          exact he z (by rw [hl]; exact List.mem_cons_of_mem _ hzm)
        · rw [if_neg hnc] at hzm
          rcases List.mem_cons.1 hzm with rfl | hzm
          · rw [drop_size]
            show b.next + (n : Int) + ((c.data.size - n : Nat) : Int) ≤ endB b
            omega
          · exact he z (by rw [hl]; exact List.mem_cons_of_mem _ hzm)
    · by_cases hnc : n = c.data.size
      · have hz : rdyB ⟨b.next + n, if n = c.data.size then l else ⟨b.next + n, ⟨(c.data.data.toList.drop n).toArray⟩⟩ :: l⟩ = 0 := by
          unfold rdyB
          rw [if_pos hok, if_pos hnc]
          cases l with
          | nil => rfl
          | cons x l =>
            have h5 : c.off + (c.data.size : Int) < x.off := h3.1
            show (if x.off = b.next + (n : Int) then _ else 0) = 0
            rw [if_neg (by omega)]
        rw [hz, hs, hnc]
        show b.next + (c.data.size : Int) + ((0 : Nat) : Int) = _
        omega
      · have hz : rdyB ⟨b.next + n, if n = c.data.size then l else ⟨b.next + n, ⟨(c.data.data.toList.drop n).toArray⟩⟩ :: l⟩ = c.data.size - n := by
          unfold rdyB
          rw [if_pos hok, if_neg hnc]
          show (if b.next + (n : Int) = b.next + (n : Int) then (⟨(c.data.data.toList.drop n).toArray⟩ : ByteArray).size else 0) = _
          rw [if_pos rfl, drop_size]
        rw [hz, hs]
        show b.next + (n : Int) + ((c.data.size - n : Nat) : Int) = _
        omega
/-- Where nothing stands behind a place, and all before it is read, nothing is left. -/
theorem no_chunks {b : Bf} (h : okB b) (he : endB b ≤ b.next) : b.chs = [] := by
  cases hl : b.chs with
  | nil => rfl
  | cons c l =>
    have h4 := okR.below h.1 (ckR c) (List.mem_map_of_mem (by rw [hl]; exact List.mem_cons_self ..))
    have h5 : b.next - 1 < c.off := h4.1
    have h6 : c.off < c.off + (c.data.size : Int) := h4.2.1
    have h7 := endB_max h c (by rw [hl]; exact List.mem_cons_self ..)
    omega
theorem okRc_fill {x : Rc} (hh : headRc x) (hc : x.code = 0) (hs : ¬ fullRc x → stRc x) : okRc (fillRc x) := by
  unfold fillRc
  by_cases hf : fullRc x
  · rw [if_pos hf]
    exact ⟨hh, .inr (.inr (.inl ⟨rfl, hf, hc⟩))⟩
  · rw [if_neg hf]
    exact ⟨hh, hs hf⟩
/-- A state that isn't past all data. -/
theorem okRc_low {r : Rc} (h : okRc r) (hs : ¬ 1 < r.st) : r.code = 0 ∧ ((r.st = 0 ∧ r.fin = -1) ∨ (r.st = 1 ∧ r.fin ≠ -1 ∧ ¬ fullRc r)) := by
  rcases h.2 with ⟨h0, h1, h2⟩ | ⟨h0, h1, h2, h3⟩ | ⟨h0, _⟩ | ⟨h0, _⟩ | ⟨h0 | h0, _⟩
  · exact ⟨h2, .inl ⟨h0, h1⟩⟩
  · exact ⟨h3, .inr ⟨h0, h1, h2⟩⟩
  all_goals omega
theorem okRc_dat {r : Rc} {o : Int} {d : ByteArray} {f : Bool} (h : okRc r) (h0 : 0 ≤ o) (h1 : o ≤ 4611686018427387903 - d.size) (hb : ¬ badRc r (o + d.size) f) (hs : ¬ 1 < r.st) : okRc (datRc r o d f) := by
  obtain ⟨hc, hst⟩ := okRc_low h hs
  obtain ⟨⟨a1, a2, a3, a4, a5, a6, a7⟩, _⟩ := h
  have e1 := end_ins_le (b := r.buf) (o := o) (d := d) a1
  unfold badRc at hb
  have hb1 : r.fin ≠ -1 → o + (d.size : Int) ≤ r.fin := fun hf => by
    have : ¬ r.fin < o + (d.size : Int) := fun hx => hb (.inl ⟨hf, .inl hx⟩)
    omega
  have a5' : r.fin ≠ -1 → r.hi ≤ r.fin := fun hf => by
    have : ¬ r.fin < r.hi := fun hx => a5 ⟨hf, hx⟩
    omega
  unfold datRc
  refine okRc_fill ⟨insB_ok _ _ _ a1, ⟨by show 0 ≤ max r.hi _; omega, by show max r.hi _ ≤ _; omega⟩, by show endB (insB r.buf o d) ≤ max r.hi _; omega, a4, ?_, ?_, ?_⟩ hc ?_
  · cases f with
    | false =>
      rintro ⟨hf, hlt⟩
      have hf : r.fin ≠ -1 := hf
      have hlt : r.fin < max r.hi (o + (d.size : Int)) := hlt
      have := hb1 hf
      have := a5' hf
      omega
    | true =>
      rintro ⟨_, hlt⟩
      have hlt : o + (d.size : Int) < max r.hi (o + (d.size : Int)) := hlt
      have : ¬ o + (d.size : Int) < r.hi := fun hx => hb (.inr ⟨rfl, hx⟩)
      omega
  · cases f with
    | false => exact a6
    | true => show o + (d.size : Int) ≤ _; omega
  · cases f with
    | false => exact a7
    | true => show -1 ≤ o + (d.size : Int); omega
  · intro hnf
    cases f with
    | false =>
      rcases hst with ⟨s0, s1⟩ | ⟨s0, s1, s2⟩
      · exact .inl ⟨s0, s1, hc⟩
      · exact .inr (.inl ⟨s0, s1, hnf, hc⟩)
    | true => exact .inr (.inl ⟨rfl, by show o + (d.size : Int) ≠ -1; omega, hnf, hc⟩)
/-- Receiving leaves a receiver valid. -/
theorem okRc_rcv {r : Rc} (o : Int) (d : ByteArray) (f : Bool) (h : okRc r) : okRc (rcvRc r o d f).1 := by
  unfold rcvRc
  split
  · exact h
  · rename_i hv
    have hv := Decidable.not_not.1 hv
    split
    · exact h
    · rename_i hb
      split
      · exact h
      · rename_i hs
        exact okRc_dat h hv.2.1 hv.2.2 hb hs
theorem okRc_rst {r : Rc} (c n : Int) (h : okRc r) : okRc (rstRc r c n).1 := by
  unfold rstRc
  split
  · exact h
  · rename_i hv
    have hv := Decidable.not_not.1 hv
    split
    · exact h
    · rename_i hb
      split
      · exact h
      · have e1 := endB_ge h.1.1
        have e2 := h.1.2.2.1
        have e3 : ¬ n < r.hi := fun hx => hb (.inr ⟨rfl, hx⟩)
        have hok : okB ⟨r.buf.next, []⟩ := ⟨trivial, h.1.1.2⟩
        refine ⟨⟨hok, hv.2.2, ?_, hv.2.1, ?_, hv.2.2.2, ?_⟩, .inr (.inr (.inr (.inr ⟨.inl rfl, ?_, rfl, rfl⟩)))⟩
        · have : endB ⟨r.buf.next, []⟩ = r.buf.next := by unfold endB; rw [if_pos hok]; rfl
          rw [this]
          show r.buf.next ≤ n
          omega
        · rintro ⟨_, hx⟩
          have hx : n < n := hx
          omega
        · show -1 ≤ n; have := hv.2.2.1; omega
        · show n ≠ -1; have := hv.2.2.1; omega
/-- Reading leaves a receiver valid. -/
theorem okRc_read {r : Rc} (m : Int) (h : okRc r) : okRc (readRc r m).2 := by
  unfold readRc
  rw [if_neg (fun x => x h)]
  by_cases h4 : r.st = 4
  · rw [if_pos h4]
    refine ⟨h.1, ?_⟩
    rcases h.2 with ⟨h0, _⟩ | ⟨h0, _⟩ | ⟨h0, _⟩ | ⟨h0, _⟩ | ⟨_, h1⟩
    · omega
    · omega
    · omega
    · omega
    · exact .inr (.inr (.inr (.inr ⟨.inr rfl, h1⟩)))
  · rw [if_neg h4]
    obtain ⟨d1, d2, d3, d4⟩ := drop_facts h.1.1 m
    have hok := dropT_ok r.buf m h.1.1
    have hle := h.1.2.2.1
    have hff : r.fin ≠ -1 → r.hi ≤ r.fin := fun hf => by
      have : ¬ r.fin < r.hi := fun hx => h.1.2.2.2.2.1 ⟨hf, hx⟩
      omega
    generalize dropT r.buf (cntT r.buf m) = b at *
    have hd : headRc ⟨if r.st = 2 ∧ b.next = r.fin then 3 else r.st, b, r.fin, r.hi, r.code⟩ := ⟨hok, h.1.2.1, by show endB b ≤ r.hi; omega, h.1.2.2.2⟩
    refine ⟨hd, ?_⟩
    have hfull : ∀ s, fullRc ⟨s, b, r.fin, r.hi, r.code⟩ ↔ fullRc r := fun s => by
      unfold fullRc
      show (r.fin ≠ -1 ∧ b.next + (rdyB b : Int) = r.fin) ↔ _
      rw [d2]
    rcases h.2 with ⟨h0, h1, h2⟩ | ⟨h0, h1, h2, h3⟩ | ⟨h0, h1, h2⟩ | ⟨h0, h1, h2, h3⟩ | ⟨h0, h1, h2, h3⟩
    · rw [if_neg (by omega)]
      exact .inl ⟨h0, h1, h2⟩
    · rw [if_neg (by omega)]
      exact .inr (.inl ⟨h0, h1, fun x => h2 ((hfull _).1 x), h3⟩)
    · by_cases hn : b.next = r.fin
      · rw [if_pos ⟨h0, hn⟩]
        have hb : b.chs = [] := no_chunks hok (by have := hff h1.1; omega)
        exact .inr (.inr (.inr (.inl ⟨rfl, (hfull _).2 h1, hb, h2⟩)))
      · rw [if_neg (fun x => hn x.2)]
        exact .inr (.inr (.inl ⟨h0, (hfull _).2 h1, h2⟩))
    · rw [if_neg (by omega)]
      exact .inr (.inr (.inr (.inl ⟨h0, (hfull _).2 h1, d4 h2, h3⟩)))
    · rw [if_neg (by omega)]
      exact .inr (.inr (.inr (.inr ⟨h0, h1, h2, d4 h3⟩)))
end Go.Proofs.Ytmmoedhfeaokgaa.Num
