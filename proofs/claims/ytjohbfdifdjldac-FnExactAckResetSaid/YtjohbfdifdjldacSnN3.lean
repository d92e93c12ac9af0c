/-
  Plain facts about a sender: it stays valid. No program is imported.
-/
import Derived.Test.YtjohbfdifdjldacSnN2
namespace Go.Proofs.Ytjohbfdifdjldac.Num

theorem docSn.norm {s : Sn} (h : docSn s) (hs : ¬ (s.st = 4 ∨ s.st = 5)) : fitS s ∧ wholeS s ∧ endS s := by
  obtain ⟨h1, h2⟩ := h
  rw [if_neg hs] at h2
  exact ⟨h1, (listS_whole h1).1 h2.1, h2.2⟩
theorem docSn.mk' {s : Sn} (hs : ¬ (s.st = 4 ∨ s.st = 5)) (h1 : fitS s) (h2 : wholeS s) (h3 : endS s) : docSn s := by
  refine ⟨h1, ?_⟩
  rw [if_neg hs]
  exact ⟨(listS_whole h1).2 h2, h3⟩
theorem docSn.low {s : Sn} (h : docSn s) (hs : s.st ≤ 3) : fitS s ∧ wholeS s ∧ endS s := h.norm (by omega)
theorem fixS_st (s : Sn) : ¬ ((fixS s).st = 4 ∨ (fixS s).st = 5) := by
  have h := folS_in s
  show ¬ (folS s = 4 ∨ folS s = 5)
  omega
/-- Writing keeps a sender valid. -/
theorem wrS_doc {s : Sn} (d : ByteArray) (h : docSn s) : docSn (wrS true s d) := by
  unfold wrS
  split
  · rename_i hc
    obtain ⟨_, h1, h2⟩ := hc
    obtain ⟨f, u, e⟩ := h.low (by omega)
    obtain ⟨f1, f2, f3, f4, f5, f6, f7⟩ := f
    obtain ⟨e1, e2, e3, e4, e5, e6, e7⟩ := e
    have hen : (wrR s.rn d).en = s.rn.en + cntW s.rn d := rfl
    have hw := wrR_ok d f1
    have hmx : s.rn.en + cntW s.rn d ≤ 4611686018427387903 := hw.2.2.2.2.2.1
    have hpe : okR (-1) (if 0 < cntW s.rn d then addL s.pe (s.rn.en, s.rn.en + cntW s.rn d) else s.pe) ∧ ∀ n, hasR (if 0 < cntW s.rn d then addL s.pe (s.rn.en, s.rn.en + cntW s.rn d) else s.pe) n ↔ hasR s.pe n ∨ (s.rn.en ≤ n ∧ n < s.rn.en + cntW s.rn d) := by
      split
      · exact addL_ok f2 ⟨by show 0 ≤ s.rn.en; omega, by show s.rn.en < s.rn.en + (cntW s.rn d : Int); omega, hmx⟩
      · exact ⟨f2, fun n => ⟨.inl, fun h => h.resolve_right (by omega)⟩⟩
    generalize (if 0 < cntW s.rn d then addL s.pe (s.rn.en, s.rn.en + cntW s.rn d) else s.pe) = q at *
    have hfi : s.fi = 0 := e5.2 h2
    have hst : s.st = if 0 < s.sent then 1 else 0 := by
      have h9 := e7
      unfold folS at h9
      rw [if_neg (by omega), if_neg (by omega)] at h9
      by_cases h0 : 0 < s.sent
      · rw [if_pos (Or.inl h0)] at h9; rw [if_pos h0]; exact h9
      · rw [if_neg (by omega)] at h9; rw [if_neg h0]; exact h9
    refine docSn.mk' (by show ¬ (s.st = 4 ∨ s.st = 5); omega) ⟨hw, hpe.1, f3, f4, ⟨f5.1, by show s.sent ≤ s.rn.en + (cntW s.rn d : Int); omega⟩, f6, f7⟩ ?_ ⟨e1, e2, e3, e4, e5, fun h => absurd h2 h, ?_⟩
    · obtain ⟨u1, u2, u3, u4⟩ := u
      refine ⟨fun n => ?_, fun n hn => ?_, fun n hn => ?_, u4⟩
      · show hasR q n ∨ hasR s.fl n ∨ hasR s.ac n ↔ 0 ≤ n ∧ n < s.rn.en + (cntW s.rn d : Int)
        rw [hpe.2]
        have := u1 n
        constructor
        · rintro ((a | a) | a)
          · have := this.1 (.inl a); omega
          · omega
          · have := this.1 (.inr a); omega
        · intro a
          by_cases b : n < s.rn.en
          · rcases this.2 ⟨a.1, b⟩ with c | c
            · exact .inl (.inl c)
            · exact .inr c
          · exact .inl (.inr (by omega))
      · rcases (hpe.2 n).1 hn.1 with a | a
        · exact u2 n ⟨a, hn.2⟩
        · have := (u1 n).1 (.inr (.inl hn.2)); omega
      · rcases (hpe.2 n).1 hn.1 with a | a
        · exact u3 n ⟨a, hn.2⟩
        · have := (u1 n).1 (.inr (.inr hn.2)); omega
    · show s.st = folS { s with rn := wrR s.rn d, pe := q }
      unfold folS
      dsimp only
      rw [if_neg (by omega), if_neg (by omega), hst]
      by_cases h0 : 0 < s.sent
      · rw [if_pos h0, if_pos (Or.inl h0)]
      · rw [if_neg h0, if_neg (by rw [if_neg h0] at hst; omega)]
  · exact h
/-- Closing keeps a sender valid. -/
theorem clS_doc {s : Sn} (h : docSn s) : docSn (clS true s) := by
  unfold clS
  split
  · rename_i hc
    obtain ⟨_, h1, h2⟩ := hc
    obtain ⟨f, u, e⟩ := h.low (by omega)
    obtain ⟨f1, f2, f3, f4, f5, f6, f7⟩ := f
    obtain ⟨e1, e2, e3, e4, e5, e6, e7⟩ := e
    have hfi : s.fi = 0 := e5.2 h2
    have h9 := e7
    unfold folS at h9
    rw [if_neg (by omega), if_neg (by omega)] at h9
    refine docSn.mk' (by show ¬ (s.st = 4 ∨ s.st = 5); omega) ⟨f1, f2, f3, f4, f5, f6, by show (0 : Int) ≤ 1; decide, by show (1 : Int) ≤ 3; decide⟩ u ⟨e1, e2, e3, e4, ⟨fun h => (by cases h), fun h => by have h8 : s.rn.en = -1 := h; omega⟩, fun _ => rfl, ?_⟩
    show s.st = folS { s with fin := s.rn.en, fi := 1 }
    unfold folS
    dsimp only
    rw [if_neg (by omega), if_neg (by omega)]
    by_cases h0 : 0 < s.sent
    · rw [if_pos (Or.inl h0)] at h9; rw [if_pos (Or.inl h0)]; exact h9
    · rw [if_neg (by omega)] at h9; rw [if_neg (by omega)]; exact h9
  · exact h
/-- A reset keeps a sender valid. -/
theorem rsS_doc {s : Sn} (c : Int) (h : docSn s) : docSn (rsS true s c) := by
  unfold rsS
  split
  · rename_i hc
    obtain ⟨_, h1, h2, h3⟩ := hc
    obtain ⟨f, u, e⟩ := h.low (by omega)
    obtain ⟨f1, f2, f3, f4, f5, f6, f7⟩ := f
    have hp := f1.1.lo
    refine ⟨⟨⟨f1.1, ?_, f5.1, Int.le_refl _, ?_, ?_, ?_⟩, trivial, trivial, trivial, ⟨f5.1, Int.le_refl _⟩, ⟨h2, h3⟩, Int.le_refl _, show (0 : Int) ≤ 3 by decide⟩, ?_⟩
    · show ((List.replicate s.rn.size.toNat (0 : Int)).length : Int) = s.rn.size
      rw [List.length_replicate]; omega
    · show s.sent - s.sent ≤ s.rn.size; omega
    · have := f1.2.2.2.2.2.1
      show s.sent ≤ 4611686018427387903; omega
    · intro z hz
      rw [List.eq_of_mem_replicate hz]
      omega
    · rw [if_pos (Or.inl rfl)]
      exact ⟨rfl, rfl, rfl, rfl, rfl, rfl, rfl⟩
  · exact h
/-- Sending a piece keeps a sender valid. -/
theorem sdS_doc {s : Sn} (p : Pc) (h : docSn s) : docSn (sdS true s p) := by
  unfold sdS
  split
  · rename_i hc
    obtain ⟨⟨_, h1, ⟨p0, p1, p2, p3⟩, _, hfin⟩, hcom⟩ := hc
    obtain ⟨f, u, e⟩ := h.low (by omega)
    obtain ⟨f1, f2, f3, f4, f5, f6, f7⟩ := f
    obtain ⟨e1, e2, e3, e4, e5, e6, e7⟩ := e
    have hmx := f1.2.2.2.2.2.1
    have hr1 : (pcR p).1 = p.off := rfl
    have hr2 : (pcR p).2 = p.off + p.data.size := rfl
    have hsub : ∀ n, p.off ≤ n → n < p.off + p.data.size → hasR s.pe n := fun n a b => by
      have h9 := hcom (by omega)
      exact ((comR_has s.pe [pcR p] n).1 (by rw [h9]; exact (hasR_cons ..).2 (.inl ⟨a, b⟩))).1
    have hff : p.data.size ≠ 0 → fineR (pcR p) := fun h9 => ⟨p0, by rw [hr1, hr2]; omega, by rw [hr2]; omega⟩
    have hpe : okR (-1) (if p.data.size ≠ 0 then remL s.pe (pcR p) else s.pe) ∧ ∀ n, hasR (if p.data.size ≠ 0 then remL s.pe (pcR p) else s.pe) n ↔ hasR s.pe n ∧ ¬ (p.off ≤ n ∧ n < p.off + p.data.size) := by
      split
      · rename_i h9; exact remL_ok f2 (hff h9)
      · exact ⟨f2, fun n => ⟨fun a => ⟨a, by omega⟩, fun a => a.1⟩⟩
    have hfl : okR (-1) (if p.data.size ≠ 0 then addL s.fl (pcR p) else s.fl) ∧ ∀ n, hasR (if p.data.size ≠ 0 then addL s.fl (pcR p) else s.fl) n ↔ hasR s.fl n ∨ (p.off ≤ n ∧ n < p.off + p.data.size) := by
      split
      · rename_i h9; exact addL_ok f3 (hff h9)
      · exact ⟨f3, fun n => ⟨.inl, fun a => a.resolve_right (by omega)⟩⟩
    have hse : s.sent ≤ (if p.data.size ≠ 0 then max s.sent (pcR p).2 else s.sent) ∧ (if p.data.size ≠ 0 then max s.sent (pcR p).2 else s.sent) ≤ s.rn.en ∧ (p.data.size ≠ 0 → p.off + p.data.size ≤ (if p.data.size ≠ 0 then max s.sent (pcR p).2 else s.sent)) := by
      rw [hr2]
      split
      · exact ⟨by omega, by omega, fun _ => by omega⟩
      · rename_i h9; exact ⟨Int.le_refl _, f5.2, fun h => absurd h h9⟩
    generalize (if p.data.size ≠ 0 then remL s.pe (pcR p) else s.pe) = q at *
    generalize (if p.data.size ≠ 0 then addL s.fl (pcR p) else s.fl) = g at *
    generalize (if p.data.size ≠ 0 then max s.sent (pcR p).2 else s.sent) = t at *
    have hfi : (0 ≤ (if p.fin = true then (2 : Int) else s.fi) ∧ (if p.fin = true then (2 : Int) else s.fi) ≤ 3) ∧ ((if p.fin = true then (2 : Int) else s.fi) = 0 ↔ s.fin = -1) := by
      split
      · rename_i h9
        exact ⟨by omega, ⟨fun h => (by cases h), fun h => absurd h (p3 h9).1⟩⟩
      · exact ⟨f7, e5⟩
    generalize (if p.fin = true then (2 : Int) else s.fi) = i at *
    obtain ⟨u1, u2, u3, u4⟩ := u
    refine docSn.mk' (fixS_st _) ⟨f1, hpe.1, hfl.1, f4, ⟨by show 0 ≤ t; omega, hse.2.1⟩, f6, hfi.1⟩ ⟨fun n => ?_, fun n hn => ?_, fun n hn => ?_, fun n hn => ?_⟩ ⟨e1, e2, ?_, ?_, hfi.2, e6, (folS_fix _).symm⟩
    · show hasR q n ∨ hasR g n ∨ hasR s.ac n ↔ 0 ≤ n ∧ n < s.rn.en
      rw [hpe.2, hfl.2, ← u1]
      by_cases a : p.off ≤ n ∧ n < p.off + p.data.size
      · exact ⟨fun _ => .inl (hsub n a.1 a.2), fun _ => .inr (.inl (.inr a))⟩
      · constructor
        · rintro (b | (b | b) | b)
          · exact .inl b.1
          · exact .inr (.inl b)
          · exact absurd b a
          · exact .inr (.inr b)
        · rintro (b | b | b)
          · exact .inl ⟨b, a⟩
          · exact .inr (.inl (.inl b))
          · exact .inr (.inr b)
    · obtain ⟨a, b⟩ := hn
      have a' := (hpe.2 n).1 a
      rcases (hfl.2 n).1 b with c | c
      · exact u2 n ⟨a'.1, c⟩
      · exact a'.2 c
    · exact u3 n ⟨((hpe.2 n).1 hn.1).1, hn.2⟩
    · rcases (hfl.2 n).1 hn.1 with c | c
      · exact u4 n ⟨c, hn.2⟩
      · exact u3 n ⟨hsub n c.1 c.2, hn.2⟩
    · refine (okR_high hfl.1).2 (fun n hn => ?_)
      show n < t
      rcases (hfl.2 n).1 hn with c | c
      · have := (okR_high f3).1 e3 n c; omega
      · have := hse.2.2 (by omega); omega
    · intro r hr
      have := e4 r hr
      show r.2 ≤ t
      omega
  · exact h
/-- A loss keeps a sender valid. -/
theorem loS_doc {s : Sn} (p : Pc) (h : docSn s) : docSn (loS true s p) := by
  unfold loS
  split
  · rename_i hc
    obtain ⟨_, h1, hp⟩ := hc
    obtain ⟨f, u, e⟩ := h.low (by omega)
    obtain ⟨f1, f2, f3, f4, f5, f6, f7⟩ := f
    obtain ⟨e1, e2, e3, e4, e5, e6, e7⟩ := e
    obtain ⟨k1, k2⟩ := comS_ok f3 hp f1.2.2.2.2.2.1
    obtain ⟨a1, a2⟩ := addLs_ok _ s.pe (-1) (Int.le_refl _) f2 k1
    obtain ⟨r1, r2⟩ := remLs_ok _ s.fl (-1) (Int.le_refl _) f3 k1
    generalize addLs s.pe (comS s p) = q at *
    generalize remLs s.fl (comS s p) = g at *
    have hfi : (0 ≤ (if p.fin = true ∧ s.fi = 2 then (1 : Int) else s.fi) ∧ (if p.fin = true ∧ s.fi = 2 then (1 : Int) else s.fi) ≤ 3) ∧ ((if p.fin = true ∧ s.fi = 2 then (1 : Int) else s.fi) = 0 ↔ s.fin = -1) := by
      split
      · rename_i h9
        exact ⟨by omega, ⟨fun h => (by cases h), fun h => absurd h (hp.2.2.2 h9.1).1⟩⟩
      · exact ⟨f7, e5⟩
    generalize (if p.fin = true ∧ s.fi = 2 then (1 : Int) else s.fi) = i at *
    obtain ⟨u1, u2, u3, u4⟩ := u
    refine docSn.mk' (fixS_st _) ⟨f1, a1, r1, f4, f5, f6, hfi.1⟩ ⟨fun n => ?_, fun n hn => ?_, fun n hn => ?_, fun n hn => ?_⟩ ⟨e1, e2, ?_, e4, hfi.2, e6, (folS_fix _).symm⟩
    · show hasR q n ∨ hasR g n ∨ hasR s.ac n ↔ 0 ≤ n ∧ n < s.rn.en
      rw [a2, r2, k2, ← u1]
      by_cases a : p.off ≤ n ∧ n < p.off + p.data.size
      · constructor
        · rintro ((b | b) | b | b)
          · exact .inl b
          · exact .inr (.inl b.1)
          · exact .inr (.inl b.1)
          · exact .inr (.inr b)
        · rintro (b | b | b)
          · exact .inl (.inl b)
          · exact .inl (.inr ⟨b, a⟩)
          · exact .inr (.inr b)
      · constructor
        · rintro ((b | b) | b | b)
          · exact .inl b
          · exact absurd b.2 a
          · exact .inr (.inl b.1)
          · exact .inr (.inr b)
        · rintro (b | b | b)
          · exact .inl (.inl b)
          · exact .inr (.inl ⟨b, fun c => a c.2⟩)
          · exact .inr (.inr b)
    · have b := (r2 n).1 hn.2
      rcases (a2 n).1 hn.1 with c | c
      · exact u2 n ⟨c, b.1⟩
      · exact b.2 c
    · rcases (a2 n).1 hn.1 with c | c
      · exact u3 n ⟨c, hn.2⟩
      · exact u4 n ⟨((k2 n).1 c).1, hn.2⟩
    · exact u4 n ⟨((r2 n).1 hn.1).1, hn.2⟩
    · exact (okR_high r1).2 fun n hn => (okR_high f3).1 e3 n ((r2 n).1 hn).1
  · exact h
/-- An acknowledgement keeps a sender valid. -/
theorem akS_doc {s : Sn} (p : Pc) (h : docSn s) : docSn (akS true s p) := by
  unfold akS
  split
  · rename_i hc
    obtain ⟨_, h1, hp⟩ := hc
    obtain ⟨f, u, e⟩ := h.low (by omega)
    obtain ⟨f1, f2, f3, f4, f5, f6, f7⟩ := f
    obtain ⟨e1, e2, e3, e4, e5, e6, e7⟩ := e
    obtain ⟨k1, k2⟩ := comS_ok f3 hp f1.2.2.2.2.2.1
    obtain ⟨a1, a2⟩ := addLs_ok _ s.ac (-1) (Int.le_refl _) f4 k1
    obtain ⟨r1, r2⟩ := remLs_ok _ s.fl (-1) (Int.le_refl _) f3 k1
    dsimp only
    rw [if_pos a1]
    generalize addLs s.ac (comS s p) = q at *
    generalize remLs s.fl (comS s p) = g at *
    have hfi : (0 ≤ (if p.fin = true ∧ s.fi = 2 then (3 : Int) else s.fi) ∧ (if p.fin = true ∧ s.fi = 2 then (3 : Int) else s.fi) ≤ 3) ∧ ((if p.fin = true ∧ s.fi = 2 then (3 : Int) else s.fi) = 0 ↔ s.fin = -1) := by
      split
      · rename_i h9
        exact ⟨by omega, ⟨fun h => (by cases h), fun h => absurd h (hp.2.2.2 h9.1).1⟩⟩
      · exact ⟨f7, e5⟩
    generalize (if p.fin = true ∧ s.fi = 2 then (3 : Int) else s.fi) = i at *
    obtain ⟨u1, u2, u3, u4⟩ := u
    have hge : s.rn.base ≤ gapR q 0 := by
      refine Int.not_lt.1 fun h9 => ?_
      have hfull := gapR_full s.ac (-1) 0 (gapR q 0) f4 (gapR_ge q 0) (by rw [e1]; exact h9)
      exact gapR_free q (-1) 0 a1 ((a2 _).2 (.inl hfull))
    have hle : gapR q 0 ≤ s.rn.en := by
      refine Int.not_lt.1 fun h9 => ?_
      have hfull := gapR_full q (-1) 0 s.rn.en a1 (by have := f5; omega) h9
      rcases (a2 _).1 hfull with c | c
      · have := (u1 s.rn.en).1 (.inr (.inr c)); omega
      · have := (u1 s.rn.en).1 (.inr (.inl ((k2 _).1 c).1)); omega
    have hcd : canD s.rn (gapR q 0) := ⟨f1, hge, hle⟩
    have hdr : (drR s.rn (gapR q 0)).base = gapR q 0 ∧ (drR s.rn (gapR q 0)).en = s.rn.en := by
      unfold drR
      rw [if_pos hcd]
      exact ⟨rfl, rfl⟩
    have hdk := drR_ok (t := gapR q 0) f1
    generalize drR s.rn (gapR q 0) = rn' at *
    refine docSn.mk' (fixS_st _) ⟨hdk, f2, r1, a1, ⟨f5.1, by show s.sent ≤ rn'.en; rw [hdr.2]; exact f5.2⟩, f6, hfi.1⟩ ⟨fun n => ?_, fun n hn => ?_, fun n hn => ?_, fun n hn => ?_⟩ ⟨hdr.1.symm, e2, ?_, ?_, hfi.2, fun h9 => (e6 h9).trans hdr.2.symm, (folS_fix _).symm⟩
    · show hasR s.pe n ∨ hasR g n ∨ hasR q n ↔ 0 ≤ n ∧ n < rn'.en
      rw [hdr.2, a2, r2, k2, ← u1]
      by_cases a : p.off ≤ n ∧ n < p.off + p.data.size
      · constructor
        · rintro (b | b | b | b)
          · exact .inl b
          · exact .inr (.inl b.1)
          · exact .inr (.inr b)
          · exact .inr (.inl b.1)
        · rintro (b | b | b)
          · exact .inl b
          · exact .inr (.inr (.inr ⟨b, a⟩))
          · exact .inr (.inr (.inl b))
      · constructor
        · rintro (b | b | b | b)
          · exact .inl b
          · exact .inr (.inl b.1)
          · exact .inr (.inr b)
          · exact absurd b.2 a
        · rintro (b | b | b)
          · exact .inl b
          · exact .inr (.inl ⟨b, fun c => a c.2⟩)
          · exact .inr (.inr (.inl b))
    · exact u2 n ⟨hn.1, ((r2 n).1 hn.2).1⟩
    · rcases (a2 n).1 hn.2 with c | c
      · exact u3 n ⟨hn.1, c⟩
      · exact u2 n ⟨hn.1, ((k2 n).1 c).1⟩
    · have b := (r2 n).1 hn.1
      rcases (a2 n).1 hn.2 with c | c
      · exact u4 n ⟨b.1, c⟩
      · exact b.2 c
    · exact (okR_high r1).2 fun n hn => (okR_high f3).1 e3 n ((r2 n).1 hn).1
    · refine (okR_high a1).2 fun n hn => ?_
      rcases (a2 n).1 hn with c | c
      · exact (okR_high f4).1 e4 n c
      · exact (okR_high f3).1 e3 n ((k2 n).1 c).1
  · exact h
end Go.Proofs.Ytjohbfdifdjldac.Num
