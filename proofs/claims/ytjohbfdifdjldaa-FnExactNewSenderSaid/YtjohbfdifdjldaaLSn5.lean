/-
  Words of the exact laws on senders: a variable that is marked, that others are marked beside, that is copied.
-/
import Derived.Test.YtjohbfdifdjldaaLSnTo
import Derived.Test.YtjohbfdifdjldaaSnK
namespace Go.Proofs.Ytjohbfdifdjldaa
open Go.RowKit Go.Deep Go.Proofs.Ytjohbfdifdjldaa.Num

/-- All of their blocks lie from B to g. -/
def Amid (B g : Nat) (v1 v2 v3 v4 : Value) : Prop := (∀ k, v1.ownBlock = some k → B ≤ k ∧ k < g) ∧ (∀ k, v2.ownBlock = some k → B ≤ k ∧ k < g) ∧ (∀ k, v3.ownBlock = some k → B ≤ k ∧ k < g) ∧ ∀ k, v4.ownBlock = some k → B ≤ k ∧ k < g
theorem VarSM.in {W : World} {B g : Nat} {s : Sn} {v1 v2 v3 v4 : Value} {l1 : List Int} {l2 l3 l4 : List Rg} (h : VarSM W B g s v1 v2 v3 v4 l1 l2 l3 l4) : Amid B g v1 v2 v3 v4 :=
  ⟨fun k hk => ⟨(h.2.1.1.1.lt k hk).1, h.2.2.1.1 k hk⟩, fun k hk => ⟨(h.2.1.1.2.1.lt k hk).1, h.2.2.1.2.1 k hk⟩, fun k hk => ⟨(h.2.1.1.2.2.1.lt k hk).1, h.2.2.1.2.2.1 k hk⟩, fun k hk => ⟨(h.2.1.1.2.2.2.lt k hk).1, h.2.2.1.2.2.2 k hk⟩⟩
theorem OwnK.same {w w' : World} {base : Nat} {v : Value} {l : List Int} (h : OwnK w base v l) (_hs : w'.heap.size ≥ w.heap.size) (hb : ∀ k, v.ownBlock = some k → w'.heap[k]? = w.heap[k]?) : OwnK w' base v l := by
  rcases h with h | ⟨g, off, cap, rfl, hle, h⟩
  · exact .inl h
  · refine .inr ⟨g, off, cap, rfl, hle, ?_⟩
    obtain ⟨h1, cs, t, h2, h3⟩ := h
    exact ⟨h1, cs, t, (hb g rfl).trans h2, h3⟩
theorem OwnP.same {w w' : World} {base : Nat} {v : Value} {l : List Rg} (h : OwnP w base v l) (_hs : w'.heap.size ≥ w.heap.size) (hb : ∀ k, v.ownBlock = some k → w'.heap[k]? = w.heap[k]?) : OwnP w' base v l := by
  rcases h with h | ⟨g, off, cap, rfl, hle, h⟩
  · exact .inl h
  · refine .inr ⟨g, off, cap, rfl, hle, ?_⟩
    obtain ⟨h1, cs, t, h2, h3⟩ := h
    exact ⟨h1, cs, t, (hb g rfl).trans h2, h3⟩
/-- The blocks of four slices of another variable were written. -/
theorem VarSM.kept {W W' : World} {B g B' g' : Nat} {s : Sn} {v1 v2 v3 v4 u1 u2 u3 u4 : Value} {l1 : List Int} {l2 l3 l4 : List Rg} (h : VarSM W B g s v1 v2 v3 v4 l1 l2 l3 l4) (hf : Four W W' u1 u2 u3 u4) (ha : Amid B' g' u1 u2 u3 u4) (hne : g < B' ∨ g' ≤ B) : VarSM W' B g s v1 v2 v3 v4 l1 l2 l3 l4 := by
  have hin := h.in
  obtain ⟨hc, ho, hu, hB, hg⟩ := h
  have hk : ∀ k, B ≤ k → k ≤ g → W'.heap[k]? = W.heap[k]? := fun k a b => hf.2.2.2.2 k (by omega) (fun e => by have := ha.1 k e; omega) (fun e => by have := ha.2.1 k e; omega) (fun e => by have := ha.2.2.1 k e; omega) (fun e => by have := ha.2.2.2 k e; omega)
  exact ⟨hc.of (hk g hB (Nat.le_refl _)), ⟨⟨ho.1.1.same hf.2.2.2.1 (fun k e => by have := hin.1 k e; exact hk k this.1 (by omega)), ho.1.2.1.same hf.2.2.2.1 (fun k e => by have := hin.2.1 k e; exact hk k this.1 (by omega)), ho.1.2.2.1.same hf.2.2.2.1 (fun k e => by have := hin.2.2.1 k e; exact hk k this.1 (by omega)), ho.1.2.2.2.same hf.2.2.2.1 (fun k e => by have := hin.2.2.2 k e; exact hk k this.1 (by omega))⟩, ho.2⟩, hu, hB, Nat.lt_of_lt_of_le hg hf.2.2.2.1⟩
/-- Its own four slices were written. -/
theorem VarSM.wrote {W W' : World} {B g : Nat} {s : Sn} {v1 v2 v3 v4 : Value} {l1 m1 : List Int} {l2 l3 l4 m2 m3 m4 : List Rg} (h : VarSM W B g s v1 v2 v3 v4 l1 l2 l3 l4) (hf : Four W W' v1 v2 v3 v4) (ho : OwnS W' B v1 v2 v3 v4 m1 m2 m3 m4) : VarSM W' B g s v1 v2 v3 v4 m1 m2 m3 m4 := by
  have hin := h.in
  obtain ⟨hc, _, hu, hB, hg⟩ := h
  exact ⟨hc.of (hf.2.2.2.2 g hg (fun e => by have := hin.1 g e; omega) (fun e => by have := hin.2.1 g e; omega) (fun e => by have := hin.2.2.1 g e; omega) (fun e => by have := hin.2.2.2 g e; omega)), ho, hu, hB, Nat.lt_of_lt_of_le hg hf.2.2.2.1⟩
theorem InSn.mark {w0 : World} {g : Nat} {s : Sn} {A1 A2 A3 A4 : Option Addr} {c1 c2 c3 c4 : Nat} {W W' : World} {K : Nat} (h : InSn w0 g s A1 A2 A3 A4 c1 c2 c3 c4 W) (hb : Below K W W') (hK : g < K) : InSn w0 g s A1 A2 A3 A4 c1 c2 c3 c4 W' :=
  ⟨h.1.below hb hK, h.2.1.below (Nat.le_of_lt hK) hb, Nat.lt_of_lt_of_le h.2.2.1 hb.size, h.2.2.2.trans (hb.mono (Nat.le_of_lt hK))⟩
theorem szS_sum {N : Int} {s : Sn} (hN : N ≤ 1048576) (h : 0 ≤ szS N s) : s.pe.length + s.fl.length + s.ac.length ≤ 1048576 := by
  unfold szS at h
  split at h <;> omega
theorem mk5_pos (s : Sn) : 1 ≤ mk5 s := by unfold mk5 mk4 mk3 mk2; omega
theorem InSn.to {w0 : World} {g : Nat} {s : Sn} {A1 A2 A3 A4 : Option Addr} {c1 c2 c3 c4 : Nat} {W : World} (h : InSn w0 g s A1 A2 A3 A4 c1 c2 c3 c4 W) (hn : LenS 1048576 s) :
    Calls Try.prog 12 #[snV s (.slice A1 s.rn.cs.length c1) (.slice A2 s.pe.length c2) (.slice A3 s.fl.length c3) (.slice A4 s.ac.length c4)] W fun e w' => ∃ g1 g2 g3 g4 : Nat, e = .returned (snV s (.slice (some ⟨g1, 0, none⟩) s.rn.cs.length s.rn.cs.length) (.slice (some ⟨g2, 0, none⟩) s.pe.length s.pe.length) (.slice (some ⟨g3, 0, none⟩) s.fl.length s.fl.length) (.slice (some ⟨g4, 0, none⟩) s.ac.length s.ac.length)) ∧ OwnSn w' W.heap.size (.slice (some ⟨g1, 0, none⟩) s.rn.cs.length s.rn.cs.length) (.slice (some ⟨g2, 0, none⟩) s.pe.length s.pe.length) (.slice (some ⟨g3, 0, none⟩) s.fl.length s.fl.length) (.slice (some ⟨g4, 0, none⟩) s.ac.length s.ac.length) s ∧ Below W.heap.size W w' :=
  tosn s A1 A2 A3 A4 c1 c2 c3 c4 W (h.2.1.up (Nat.le_of_lt h.2.2.1)) hn
/-- laws.eqSender of two variables that hold the same. -/
theorem eqvs (s : Sn) (A1 A2 A3 A4 B1 B2 B3 B4 : Option Addr) (c1 c2 c3 c4 d1 d2 d3 d4 K K' : Nat) (W : World) (h : OwnSn W K (.slice A1 s.rn.cs.length c1) (.slice A2 s.pe.length c2) (.slice A3 s.fl.length c3) (.slice A4 s.ac.length c4) s) (h' : OwnSn W K' (.slice B1 s.rn.cs.length d1) (.slice B2 s.pe.length d2) (.slice B3 s.fl.length d3) (.slice B4 s.ac.length d4) s) (hn : LenS 10000000 s) :
    Calls Try.prog 7 #[snV s (.slice A1 s.rn.cs.length c1) (.slice A2 s.pe.length c2) (.slice A3 s.fl.length c3) (.slice A4 s.ac.length c4), snV s (.slice B1 s.rn.cs.length d1) (.slice B2 s.pe.length d2) (.slice B3 s.fl.length d3) (.slice B4 s.ac.length d4)] W fun e w' => e = .returned (.bool true) ∧ Below W.heap.size W w' :=
  eqsn s A1 A2 A3 A4 c1 c2 c3 c4 B1 B2 B3 B4 d1 d2 d3 d4 W h.read h'.read hn
/-- laws.heldSender of a marked variable. -/
theorem heldvs (s : Sn) (A1 A2 A3 A4 : Option Addr) (c1 c2 c3 c4 K : Nat) (w : World) (h : OwnS w K (.slice A1 s.rn.cs.length c1) (.slice A2 s.pe.length c2) (.slice A3 s.fl.length c3) (.slice A4 s.ac.length c4) (marks 1 s.rn.cs.length) (marksR (mk2 s) s.pe.length) (marksR (mk3 s) s.fl.length) (marksR (mk4 s) s.ac.length)) (hn : LenS 10000000 s) :
    Calls Try.prog 9 #[snV s (.slice A1 s.rn.cs.length c1) (.slice A2 s.pe.length c2) (.slice A3 s.fl.length c3) (.slice A4 s.ac.length c4), .int .i64 1] w fun e w' => e = .returned (.int .i64 (mk5 s)) ∧ Below w.heap.size w w' := by
  have e1 := h.1.1
  have e2 := h.1.2.1
  have e3 := h.1.2.2.1
  have e4 := h.1.2.2.2
  rw [show (Value.slice A1 s.rn.cs.length c1) = .slice A1 (marks 1 s.rn.cs.length).length c1 by rw [marks_len]] at e1
  rw [show (Value.slice A2 s.pe.length c2) = .slice A2 (marksR (mk2 s) s.pe.length).length c2 by rw [marksR_len]] at e2
  rw [show (Value.slice A3 s.fl.length c3) = .slice A3 (marksR (mk3 s) s.fl.length).length c3 by rw [marksR_len]] at e3
  rw [show (Value.slice A4 s.ac.length c4) = .slice A4 (marksR (mk4 s) s.ac.length).length c4 by rw [marksR_len]] at e4
  exact heldsn s A1 A2 A3 A4 c1 c2 c3 c4 w e1.chs e2.rgs e3.rgs e4.rgs hn
end Go.Proofs.Ytjohbfdifdjldaa
