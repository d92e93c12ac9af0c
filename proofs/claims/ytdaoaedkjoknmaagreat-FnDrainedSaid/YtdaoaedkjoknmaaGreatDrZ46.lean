/-
  Contracts and lemmas for the law on draining.
-/
import Derived.Test.YtdaoaedkjoknmaaGreatDrZ0
import Derived.Test.YtdaoaedkjoknmaaGreatDrZ32
import Derived.Test.YtdaoaedkjoknmaaGreatDrZ39
import Derived.Test.YtdaoaedkjoknmaaGreatDrZ43
import Derived.Test.YtdaoaedkjoknmaaGreatDrZ44
import Derived.Test.YtdaoaedkjoknmaaGreatDrZ45
import Derived.Test.YtdaoaedkjoknmaaGreatDrZ21
import Derived.Test.YtdaoaedkjoknmaaGreatDrZ30
import Derived.Test.YtdaoaedkjoknmaaGreatDrZ2
import Derived.Deep.RegionHeld3
import Derived.Deep.RegionWith
import Derived.Deep.DeepCutAuto
import Derived.Deep.RegionLaw
set_option maxRecDepth 1000000
set_option maxHeartbeats 8000000
namespace Go.Proofs.YtdaoaedkjoknmaaGreat
open Go.RowKit Go.Deep Go.Proofs.YtdaoaedkjoknmaaGreat.Num

variable {T : ByteArray} {s : Sn} {g : Rc} {ps L R : List Pc} {q p : Pc}
theorem _root_.Go.Proofs.YtdaoaedkjoknmaaGreat.Num.DrI.piece (h : DrI T s g ps) (hp : p ∈ ps) : in64 p.off ∧ p.data.size ≤ 16 := by
  obtain ⟨o1, o2, _⟩ := h.ofw p hp
  have := h.w16
  exact ⟨by unfold in64; omega, by omega⟩
theorem dr_next (h : DrI T s g ps) (A1 A2 A3 A4 : Option Addr) (c1 c2 c3 c4 : Nat) (hc : CapT s c2 c3 c4) (m : Int) (W : World) (hr : ReadS W W.heap.size A1 A2 A3 A4 s) :
    Calls Tryz.prog 13 #[snV s (.slice A1 s.rn.cs.length c1) (.slice A2 s.pe.length c2) (.slice A3 s.fl.length c3) (.slice A4 s.ac.length c4), .int .i64 m, .int .i64 100] W fun e w' => e = .returned (.tuple #[pcV (nxV (nxS true s m 100)), .bool (nxS true s m 100).isSome]) ∧ Below W.heap.size W w' := by
  have hf := h.fits
  exact inext s A1 A2 A3 A4 c1 c2 c3 c4 W.heap.size W (Nat.le_refl _) hr (LenS.up hf.1 (by decide)) (by unfold LenT; have := hf.1; omega) hc m 100 hf.2 h.doc
theorem dr_send (h : DrI T s g ps) {m : Int} (hn : nxS true s m 100 = some p) (A1 A2 A3 A4 : Option Addr) (c1 c2 c3 c4 : Nat) (W : World) (hr : ReadS W W.heap.size A1 A2 A3 A4 s) :
    Calls Tryz.prog 14 #[snV s (.slice A1 s.rn.cs.length c1) (.slice A2 s.pe.length c2) (.slice A3 s.fl.length c3) (.slice A4 s.ac.length c4), pcV p] W fun e w' => ∃ v1 v2 v3 v4, e = .returned (.tuple #[snV (sdS true s p) v1 v2 v3 v4, .bool true]) ∧ OwnSn w' W.heap.size v1 v2 v3 v4 (sdS true s p) ∧ Below W.heap.size W w' := by
  have hf := h.fits
  obtain ⟨h2, hcan⟩ := h.send hn
  have hp := h2.piece (List.mem_append.2 (.inr (List.mem_singleton.2 rfl)))
  have h3 := isend s A1 A2 A3 A4 c1 c2 c3 c4 W.heap.size W (Nat.le_refl _) hr p hf.1 hf.2 hp.1 (by omega)
  rw [decide_eq_true h.doc, nx_sent h.doc hn, decide_eq_true hcan] at h3
  exact h3
theorem dr_lose (h : DrI T s g (L ++ q :: R)) (A1 A2 A3 A4 : Option Addr) (c1 c2 c3 c4 : Nat) (W : World) (hr : ReadS W W.heap.size A1 A2 A3 A4 s) :
    Calls Tryz.prog 15 #[snV s (.slice A1 s.rn.cs.length c1) (.slice A2 s.pe.length c2) (.slice A3 s.fl.length c3) (.slice A4 s.ac.length c4), pcV q] W fun e w' => ∃ v1 v2 v3 v4, e = .returned (snV (loS true s q) v1 v2 v3 v4) ∧ OwnSn w' W.heap.size v1 v2 v3 v4 (loS true s q) ∧ Below W.heap.size W w' := by
  have hf := h.fits
  have hp := h.piece (List.mem_append.2 (.inr (List.mem_cons_self ..)))
  have h3 := ilose s A1 A2 A3 A4 c1 c2 c3 c4 W.heap.size W (Nat.le_refl _) hr q hf.1 hf.2 hp.1 (by omega)
  rw [decide_eq_true h.doc] at h3
  exact h3
theorem dr_ack (h : DrI T s g (L ++ q :: R)) (A1 A2 A3 A4 : Option Addr) (c1 c2 c3 c4 : Nat) (W : World) (hr : ReadS W W.heap.size A1 A2 A3 A4 s) :
    Calls Tryz.prog 17 #[snV s (.slice A1 s.rn.cs.length c1) (.slice A2 s.pe.length c2) (.slice A3 s.fl.length c3) (.slice A4 s.ac.length c4), pcV q] W fun e w' => ∃ v1 v2 v3 v4, e = .returned (snV (akS true s q) v1 v2 v3 v4) ∧ OwnSn w' W.heap.size v1 v2 v3 v4 (akS true s q) ∧ Below W.heap.size W w' := by
  have hf := h.fits
  have hp := h.piece (List.mem_append.2 (.inr (List.mem_cons_self ..)))
  have h3 := iack s A1 A2 A3 A4 c1 c2 c3 c4 W.heap.size W (Nat.le_refl _) hr q hf.1 hf.2 hp.1 (by omega)
  rw [decide_eq_true h.doc] at h3
  exact h3
theorem dr_recv (h : DrI T s g (L ++ q :: R)) (hs : sumC g.buf.chs ≤ 1000) (U : Option Addr) (cu : Nat) (hcu : g.buf.chs.length ≤ cu) (W : World) (hr : Chs W W.heap.size U g.buf.chs) :
    Calls Tryz.prog 16 #[rcV g (.slice U g.buf.chs.length cu), .int .i64 q.off, .string q.data, .bool q.fin] W fun e w' => ∃ v, e = .returned (.tuple #[rcV (rcvRc g q.off q.data q.fin).1 v, .int .i64 0]) ∧ OwnX w' W.heap.size v (rcvRc g q.off q.data q.fin).1.buf.chs ∧ Below W.heap.size W w' := by
  have hp := h.piece (List.mem_append.2 (.inr (List.mem_cons_self ..)))
  have hk := okB_few h.rok.1.1
  have h3 := ircvrc g q.off q.data q.fin U cu W.heap.size W (Nat.le_refl _) hr (by omega) hcu (okB_inb h.rok.1.1 (by omega)) (rc_in h.rok) hp.1 (by omega)
  rw [h.recv.1] at h3
  exact h3
theorem dr_sum (h : DrI T s g (L ++ q :: R)) (j : Int) (hs : sumC g.buf.chs ≤ 16 * j) : sumC (rcvRc g q.off q.data q.fin).1.buf.chs ≤ 16 * (j + 1) := by
  have h1 := recv_sum q.off q.data q.fin h.rok
  have hp := h.piece (List.mem_append.2 (.inr (List.mem_cons_self ..)))
  omega
theorem BoxPc.grown {W W' : World} {k : Nat} {ob : Option Nat} (x : BoxPc W k p) (hg : W.grownBy W' ob) (hne : ob ≠ some k) : BoxPc W' k p := (hg.block k x.lt (fun e => hne e.symm)).trans x
end Go.Proofs.YtdaoaedkjoknmaaGreat

namespace Go.Proofs.YtdaoaedkjoknmaaGreat
open Go.RowKit Go.Deep Go.Proofs.YtdaoaedkjoknmaaGreat.Num

def heads (n : Nat) : _root_.Go.Code → Bool
  | .seq (.region m _ _) _ => m == n
  | _ => false
def piece (n : Nat) : _root_.Go.Code → Option _root_.Go.Code
  | .seq a b => match heads n (.seq a b) with
    | true => some (.seq a b)
    | false => match piece n a with
      | some x => some x
      | none => piece n b
  | .loop c => piece n c
  | .block _ c => piece n c
  | .scope c => piece n c
  | .cond _ a b => match piece n a with
    | some x => some x
    | none => piece n b
  | _ => none
def region (n : Nat) : _root_.Go.Code → Option _root_.Go.Code
  | .region m o d => match m == n with
    | true => some (.region m o d)
    | false => none
  | .seq a b => match region n a with
    | some x => some x
    | none => region n b
  | .loop c => region n c
  | .block _ c => region n c
  | .scope c => region n c
  | .cond _ a b => match region n a with
    | some x => some x
    | none => region n b
  | _ => none
noncomputable def regAt (n : Nat) : _root_.Go.Code := (Tryz.f3.body.bind (region n)).getD .skip
noncomputable def codeAt (n : Nat) : _root_.Go.Code := (Tryz.f3.body.bind (piece n)).getD .skip
def DrInv (w W : World) (gs gg : Nat) (T : ByteArray) (j : Nat) (pv : Value) : Prop :=
  ∃ (s : Sn) (v1 v2 v3 v4 : Value) (g : Rc) (u : Value) (ps : List Pc), sumC g.buf.chs ≤ 16 * (j : Int) ∧ ps.length ≤ j ∧ DrW w W gs gg s v1 v2 v3 v4 g u ps pv ∧ DrI T s g ps
theorem BoxPc.next {W W' : World} {g : Nat} {p : Pc} (x : BoxPc W g p) (hb : Below W.heap.size W W') : BoxPc W' g p := x.below hb x.lt
end Go.Proofs.YtdaoaedkjoknmaaGreat

namespace Go.Proofs.YtdaoaedkjoknmaaGreat
open Go.RowKit Go.Deep Go.Proofs.YtdaoaedkjoknmaaGreat.Num

variable {c1 c2 c3 c4 c5 c6 c7 c8 c9 c10 c11 c12 c13 c14 c15 c16 c17 c18 c19 c20 c21 c22 c23 c24 c25 c26 c27 c28 c29 c30 c31 c32 c33 c34 c35 c36 c37 c38 c39 c40 c41 c42 c43 c44 c45 c46 c47 c48 c49 c50 c51 c52 c53 c54 c55 c56 c57 c58 c59 c60 c61 c62 c63 c64 c65 c66 c67 c68 c69 c70 c71 c72 c73 c74 c75 c76 c77 c78 c79 c80 c81 c82 c83 c84 c85 c86 c87 c88 c89 c90 c91 c92 c93 c94 c95 c96 c97 c98 c99 c100 c101 c102 c103 c104 c105 c106 c107 c108 c109 c110 c111 c112 c113 c114 c115 c116 c117 c118 c119 c120 c121 c122 c123 c124 c125 c126 c127 c128 c129 c130 c131 c132 c133 c134 c135 c136 c137 c138 c139 c140 c141 c142 c143 c144 c145 c146 c147 c148 c149 c150 c151 c152 c153 c154 c155 c156 c157 c158 c159 c160 c161 c162 c163 c164 c165 c166 c167 c168 c169 c170 c171 c172 c173 c174 c175 c176 c177 c178 c179 c180 c181 c182 : Value}
theorem t29  {Q : Exit → Act → World → Prop} {A : Option Addr} {len cap : Nat} {w W : World} {gs gg gq j : Nat} {s : Sn} {v1 v2 v3 v4 : Value} {g : Rc} {u : Value} {L R : List Pc} {q : Pc} {pv : Value} {T : ByteArray}
    (hw : DrW w W gs gg s v1 v2 v3 v4 g u (L ++ R) pv) (hi : DrI T s g (L ++ q :: R)) (hb : BoxPc W gq q) (hg1 : gs < gq) (hg2 : gg < gq) (hsum : sumC g.buf.chs ≤ 16 * (j : Int)) (hj : j < 60) (hlen : (L ++ R).length ≤ j)
    (hQ : ∀ (W' : World) (u17 u18 u144 u145 u146 u147 u148 u149 u150 u151 u152 u153 u154 u155 u156 u157 u158 u159 u160 : Value), DrInv w W' gs gg T (j + 1) pv → Q .normal ⟨#[.slice A len cap, c1, c2, .pointer (some ⟨gs, 0, none⟩), c4, c5, c6, c7, .pointer (some ⟨gg, 0, none⟩), pv, .int .i64 (j : Int), c11, c12, c13, c14, c15, .pointer (some ⟨gq, 0, none⟩), u17, u18, c19, c20, c21, c22, c23, c24, c25, c26, c27, c28, c29, c30, c31, c32, c33, c34, c35, c36, c37, c38, c39, c40, c41, c42, c43, c44, c45, c46, c47, c48, c49, c50, c51, c52, c53, c54, c55, c56, c57, c58, c59, c60, c61, c62, c63, c64, c65, c66, c67, c68, c69, c70, c71, c72, c73, c74, c75, c76, c77, c78, c79, c80, c81, c82, c83, c84, c85, c86, c87, c88, c89, c90, c91, c92, c93, c94, c95, c96, c97, c98, c99, c100, c101, c102, c103, c104, c105, c106, c107, c108, c109, c110, c111, c112, c113, c114, c115, c116, c117, c118, c119, c120, c121, c122, c123, c124, c125, c126, c127, c128, c129, c130, c131, c132, c133, c134, c135, c136, c137, c138, c139, c140, c141, c142, c143, u144, u145, u146, u147, u148, u149, u150, u151, u152, u153, u154, u155, u156, u157, u158, u159, u160, c161, c162, c163, c164, c165, c166, c167, c168, c169, c170, c171, c172, c173, c174, c175, c176, c177, c178, c179, c180, c181, c182], []⟩ W') :
    _root_.Go.Code.wp Tryz.prog (codeAt 29) Q ⟨#[.slice A len cap, c1, c2, .pointer (some ⟨gs, 0, none⟩), c4, c5, c6, c7, .pointer (some ⟨gg, 0, none⟩), pv, .int .i64 (j : Int), c11, c12, c13, c14, c15, .pointer (some ⟨gq, 0, none⟩), c17, c18, c19, c20, c21, c22, c23, c24, c25, c26, c27, c28, c29, c30, c31, c32, c33, c34, c35, c36, c37, c38, c39, c40, c41, c42, c43, c44, c45, c46, c47, c48, c49, c50, c51, c52, c53, c54, c55, c56, c57, c58, c59, c60, c61, c62, c63, c64, c65, c66, c67, c68, c69, c70, c71, c72, c73, c74, c75, c76, c77, c78, c79, c80, c81, c82, c83, c84, c85, c86, c87, c88, c89, c90, c91, c92, c93, c94, c95, c96, c97, c98, c99, c100, c101, c102, c103, c104, c105, c106, c107, c108, c109, c110, c111, c112, c113, c114, c115, c116, c117, c118, c119, c120, c121, c122, c123, c124, c125, c126, c127, c128, c129, c130, c131, c132, c133, c134, c135, c136, c137, c138, c139, c140, c141, c142, c143, c144, c145, c146, c147, c148, c149, c150, c151, c152, c153, c154, c155, c156, c157, c158, c159, c160, c161, c162, c163, c164, c165, c166, c167, c168, c169, c170, c171, c172, c173, c174, c175, c176, c177, c178, c179, c180, c181, c182], []⟩ W := by
  obtain ⟨A1, A2, A3, A4, e1, e2, e3, e4, rfl, rfl, rfl, rfl, k1, k2, k3, k4⟩ := hw.os.frs
  obtain ⟨U, eu, rfl, kU, _⟩ := hw.og.frs
  have HR := LH fun W h => dr_recv hi (by omega) U eu kU W h
  have HA := LH fun W h => dr_ack hi A1 A2 A3 A4 e1 e2 e3 e4 W h
  have HS2 := LH (dr_sum hi j hsum)
  have HI2 := LH hi.ack
  have HLN : Hid ((L ++ R).length ≤ j + 1) := LH (Nat.le_succ_of_le hlen)
  have HG := LH (And.intro hg1 hg2)
  have HW := LH hw
  have HB := LH hb
  have HQ := LH hQ
  generalize (rcvRc g q.off q.data q.fin).1 = g2 at *
  generalize akS true s q = s2 at *
  clear hi hsum hlen hw hb hQ hg1 hg2 k1 k2 k3 k4 kU hj
  obtain ⟨b0, b1, b2, b3, b4, b5⟩ := HW.out.rg.cells
  obtain ⟨q0, q1, q2⟩ := HB.out.cells
  conv => arg 2; whnf
  go_wp2_with fail
  refine (HR.out _ HW.out.og.chs).mono ?_
  rintro e w3 ⟨v, rfl, ho, hb⟩
  obtain ⟨X, ex, rfl, _, _⟩ := ho.frs
  have HLo := LH HW.out.lows
  have HOX := LH (ho.alloc (.cells (rcC g2.st g2.buf.next (.slice X g2.buf.chs.length ex) g2.fin g2.hi g2.code) 40))
  have HW2 := LH ((HW.out.next hb).alloc (.cells (rcC g2.st g2.buf.next (.slice X g2.buf.chs.length ex) g2.fin g2.hi g2.code) 40))
  have HB2 := LH ((HB.out.next hb).next ((Below.refl _ _).alloc (Nat.le_refl _) (.cells (rcC g2.st g2.buf.next (.slice X g2.buf.chs.length ex) g2.fin g2.hi g2.code) 40)))
  have HN := LH (BoxR.new w3 g2.st g2.buf.next (.slice X g2.buf.chs.length ex) g2.fin g2.hi g2.code)
  have HNE : Hid (w3.heap.size ≠ gg) := LH (by have := (HW.out.next hb).ltg; omega)
  clear ho hb HB HR b0 b1 b2 b3 b4 b5 q0 q1 q2
  go_upto_region 30 with fail
  generalize w3.alloc (.cells (rcC g2.st g2.buf.next (.slice X g2.buf.chs.length ex) g2.fin g2.hi g2.code) 40) = w4 at *
  generalize w3.heap.size = gn at *
  obtain ⟨n0, n1, n2, n3, n4, n5⟩ := HN.out.cells
  obtain ⟨b0, b1, b2, b3, b4, b5⟩ := HW2.out.rg.cells
  have bf := HW2.out.rg.free
  go_upto_region 33 with fail
  have HW3 := LH (HW2.out.putG HLo.out HOX.out)
  have HB3 := LH (HB2.out.grown (putG_grown w4 gg g2 (.slice X g2.buf.chs.length ex)) (fun e => by have := HG.out.2; injection e; omega))
  clear n0 n1 n2 n3 n4 n5 b0 b1 b2 b3 b4 b5 bf HW2 HB2 HOX HN HLo HNE HW
  dsimp only [putG] at HW3 HB3
  generalize ((((((w4.setCell ⟨gg, 0, none⟩ (.int .i64 g2.st)).setCell ⟨gg, 1, none⟩ (.int .i64 g2.buf.next)).setCell ⟨gg, 2, none⟩ (.slice X g2.buf.chs.length ex)).setCell ⟨gg, 3, none⟩ (.int .i64 g2.fin)).setCell ⟨gg, 4, none⟩ (.int .i64 g2.hi)).setCell ⟨gg, 5, none⟩ (.int .i64 g2.code)) = w5 at *
  obtain ⟨a0, a1, a2, a3, a4, a5, a6, a7, a8, a9, a10, a11⟩ := HW3.out.cells
  obtain ⟨q0, q1, q2⟩ := HB3.out.cells
  go_wp2_with fail
  refine (HA.out _ HW3.out.os.read).mono ?_
  rintro e w6 ⟨x1, x2, x3, x4, rfl, ho, hb⟩
  obtain ⟨X1, X2, X3, X4, f1, f2, f3, f4, rfl, rfl, rfl, rfl, _, _, _, _⟩ := ho.frs
  have HW6 := LH ((HW3.out.next hb).putS HW3.out.lows ho)
  have HW7 := LH (HW3.out.next hb)
  clear ho hb a0 a1 a2 a3 a4 a5 a6 a7 a8 a9 a10 a11 q0 q1 q2 HA HB3 HW3
  obtain ⟨a0, a1, a2, a3, a4, a5, a6, a7, a8, a9, a10, a11⟩ := HW7.out.cells
  have pf := HW7.out.free
  go_wp2
  exact HQ.out _ _ _ _ _ _ _ _ _ _ _ _ _ _ _ _ _ _ _ _ ⟨s2, _, _, _, _, g2, _, _, HS2.out, HLN.out, HW6.out, HI2.out⟩
end Go.Proofs.YtdaoaedkjoknmaaGreat

namespace Go.Proofs.YtdaoaedkjoknmaaGreat
open Go.RowKit Go.Deep Go.Proofs.YtdaoaedkjoknmaaGreat.Num

variable {c1 c2 c3 c4 c5 c6 c7 c8 c9 c10 c11 c12 c13 c14 c15 c16 c17 c18 c19 c20 c21 c22 c23 c24 c25 c26 c27 c28 c29 c30 c31 c32 c33 c34 c35 c36 c37 c38 c39 c40 c41 c42 c43 c44 c45 c46 c47 c48 c49 c50 c51 c52 c53 c54 c55 c56 c57 c58 c59 c60 c61 c62 c63 c64 c65 c66 c67 c68 c69 c70 c71 c72 c73 c74 c75 c76 c77 c78 c79 c80 c81 c82 c83 c84 c85 c86 c87 c88 c89 c90 c91 c92 c93 c94 c95 c96 c97 c98 c99 c100 c101 c102 c103 c104 c105 c106 c107 c108 c109 c110 c111 c112 c113 c114 c115 c116 c117 c118 c119 c120 c121 c122 c123 c124 c125 c126 c127 c128 c129 c130 c131 c132 c133 c134 c135 c136 c137 c138 c139 c140 c141 c142 c143 c144 c145 c146 c147 c148 c149 c150 c151 c152 c153 c154 c155 c156 c157 c158 c159 c160 c161 c162 c163 c164 c165 c166 c167 c168 c169 c170 c171 c172 c173 c174 c175 c176 c177 c178 c179 c180 c181 c182 : Value}
theorem r27  {Q : Exit → Act → World → Prop} {A : Option Addr} {len cap : Nat} {w W : World} {gs gg gq j : Nat} {pv : Value} {x : Int}
    (hj : j < 60) (hb : Below w.heap.size w W) (hat : ∀ W, Below w.heap.size w W → Calls Tryz.prog 8 #[.slice A len cap, .int .i64 ((j : Int) + 11)] W fun e w' => e = .returned (.int .i64 x) ∧ W = w')
    (hQ : ∀ (u131 u132 u133 u134 u135 u136 u137 u138 u139 : Value) (b : Bool), Q .normal ⟨#[.slice A len cap, c1, c2, .pointer (some ⟨gs, 0, none⟩), c4, c5, c6, c7, .pointer (some ⟨gg, 0, none⟩), pv, .int .i64 (j : Int), c11, c12, c13, c14, c15, .pointer (some ⟨gq, 0, none⟩), c17, c18, c19, c20, c21, c22, c23, c24, c25, c26, c27, c28, c29, c30, c31, c32, c33, c34, c35, c36, c37, c38, c39, c40, c41, c42, c43, c44, c45, c46, c47, c48, c49, c50, c51, c52, c53, c54, c55, c56, c57, c58, c59, c60, c61, c62, c63, c64, c65, c66, c67, c68, c69, c70, c71, c72, c73, c74, c75, c76, c77, c78, c79, c80, c81, c82, c83, c84, c85, c86, c87, c88, c89, c90, c91, c92, c93, c94, c95, c96, c97, c98, c99, c100, c101, c102, c103, c104, c105, c106, c107, c108, c109, c110, c111, c112, c113, c114, c115, c116, c117, c118, c119, c120, c121, c122, c123, c124, c125, c126, c127, c128, c129, c130, u131, u132, u133, u134, u135, u136, u137, u138, u139, .bool b, c141, c142, c143, c144, c145, c146, c147, c148, c149, c150, c151, c152, c153, c154, c155, c156, c157, c158, c159, c160, c161, c162, c163, c164, c165, c166, c167, c168, c169, c170, c171, c172, c173, c174, c175, c176, c177, c178, c179, c180, c181, c182], []⟩ W) :
    _root_.Go.Code.wp Tryz.prog (regAt 27) Q ⟨#[.slice A len cap, c1, c2, .pointer (some ⟨gs, 0, none⟩), c4, c5, c6, c7, .pointer (some ⟨gg, 0, none⟩), pv, .int .i64 (j : Int), c11, c12, c13, c14, c15, .pointer (some ⟨gq, 0, none⟩), c17, c18, c19, c20, c21, c22, c23, c24, c25, c26, c27, c28, c29, c30, c31, c32, c33, c34, c35, c36, c37, c38, c39, c40, c41, c42, c43, c44, c45, c46, c47, c48, c49, c50, c51, c52, c53, c54, c55, c56, c57, c58, c59, c60, c61, c62, c63, c64, c65, c66, c67, c68, c69, c70, c71, c72, c73, c74, c75, c76, c77, c78, c79, c80, c81, c82, c83, c84, c85, c86, c87, c88, c89, c90, c91, c92, c93, c94, c95, c96, c97, c98, c99, c100, c101, c102, c103, c104, c105, c106, c107, c108, c109, c110, c111, c112, c113, c114, c115, c116, c117, c118, c119, c120, c121, c122, c123, c124, c125, c126, c127, c128, c129, c130, c131, c132, c133, c134, c135, c136, c137, c138, c139, c140, c141, c142, c143, c144, c145, c146, c147, c148, c149, c150, c151, c152, c153, c154, c155, c156, c157, c158, c159, c160, c161, c162, c163, c164, c165, c166, c167, c168, c169, c170, c171, c172, c173, c174, c175, c176, c177, c178, c179, c180, c181, c182], []⟩ W := by
  have hw : wrap64 ((j : Int) + 11) = (j : Int) + 11 := by unfold wrap64; omega
  have hz : ¬ (4 : Int) = 0 := by decide
  by_cases h : (j : Int) < 40
  · have d0 : decide ((j : Int) < 40) = true := decide_eq_true h
    clear h hj
    conv => arg 2; whnf
    go_wp2_with fail
    refine (hat _ hb).mono ?_
    rintro e w3 ⟨rfl, rfl⟩
    go_wp2
    exact hQ _ _ _ _ _ _ _ _ _ _
  · have d0 : decide ((j : Int) < 40) = false := decide_eq_false h
    clear h hj
    conv => arg 2; whnf
    go_wp2
    exact hQ _ _ _ _ _ _ _ _ _ _
theorem r28  {Q : Exit → Act → World → Prop} {A : Option Addr} {len cap : Nat} {w W : World} {gs gg gq j : Nat} {s : Sn} {v1 v2 v3 v4 : Value} {g : Rc} {u : Value} {L R : List Pc} {q : Pc} {pv : Value} {T : ByteArray}
    (hw : DrW w W gs gg s v1 v2 v3 v4 g u (L ++ R) pv) (hi : DrI T s g (L ++ q :: R)) (hb : BoxPc W gq q) (hsum : sumC g.buf.chs ≤ 16 * (j : Int)) (hlen : (L ++ R).length ≤ j)
    (hQ : ∀ (u141 u142 u143 : Value) (W' : World), DrInv w W' gs gg T (j + 1) pv → Q .normal ⟨#[.slice A len cap, c1, c2, .pointer (some ⟨gs, 0, none⟩), c4, c5, c6, c7, .pointer (some ⟨gg, 0, none⟩), pv, .int .i64 (j : Int), c11, c12, c13, c14, c15, .pointer (some ⟨gq, 0, none⟩), c17, c18, c19, c20, c21, c22, c23, c24, c25, c26, c27, c28, c29, c30, c31, c32, c33, c34, c35, c36, c37, c38, c39, c40, c41, c42, c43, c44, c45, c46, c47, c48, c49, c50, c51, c52, c53, c54, c55, c56, c57, c58, c59, c60, c61, c62, c63, c64, c65, c66, c67, c68, c69, c70, c71, c72, c73, c74, c75, c76, c77, c78, c79, c80, c81, c82, c83, c84, c85, c86, c87, c88, c89, c90, c91, c92, c93, c94, c95, c96, c97, c98, c99, c100, c101, c102, c103, c104, c105, c106, c107, c108, c109, c110, c111, c112, c113, c114, c115, c116, c117, c118, c119, c120, c121, c122, c123, c124, c125, c126, c127, c128, c129, c130, c131, c132, c133, c134, c135, c136, c137, c138, c139, c140, u141, u142, u143, c144, c145, c146, c147, c148, c149, c150, c151, c152, c153, c154, c155, c156, c157, c158, c159, c160, c161, c162, c163, c164, c165, c166, c167, c168, c169, c170, c171, c172, c173, c174, c175, c176, c177, c178, c179, c180, c181, c182], []⟩ W') :
    _root_.Go.Code.wp Tryz.prog (regAt 28) Q ⟨#[.slice A len cap, c1, c2, .pointer (some ⟨gs, 0, none⟩), c4, c5, c6, c7, .pointer (some ⟨gg, 0, none⟩), pv, .int .i64 (j : Int), c11, c12, c13, c14, c15, .pointer (some ⟨gq, 0, none⟩), c17, c18, c19, c20, c21, c22, c23, c24, c25, c26, c27, c28, c29, c30, c31, c32, c33, c34, c35, c36, c37, c38, c39, c40, c41, c42, c43, c44, c45, c46, c47, c48, c49, c50, c51, c52, c53, c54, c55, c56, c57, c58, c59, c60, c61, c62, c63, c64, c65, c66, c67, c68, c69, c70, c71, c72, c73, c74, c75, c76, c77, c78, c79, c80, c81, c82, c83, c84, c85, c86, c87, c88, c89, c90, c91, c92, c93, c94, c95, c96, c97, c98, c99, c100, c101, c102, c103, c104, c105, c106, c107, c108, c109, c110, c111, c112, c113, c114, c115, c116, c117, c118, c119, c120, c121, c122, c123, c124, c125, c126, c127, c128, c129, c130, c131, c132, c133, c134, c135, c136, c137, c138, c139, c140, c141, c142, c143, c144, c145, c146, c147, c148, c149, c150, c151, c152, c153, c154, c155, c156, c157, c158, c159, c160, c161, c162, c163, c164, c165, c166, c167, c168, c169, c170, c171, c172, c173, c174, c175, c176, c177, c178, c179, c180, c181, c182], []⟩ W := by
  obtain ⟨A1, A2, A3, A4, e1, e2, e3, e4, rfl, rfl, rfl, rfl, k1, k2, k3, k4⟩ := hw.os.frs
  have HA := LH fun W h => dr_lose hi A1 A2 A3 A4 e1 e2 e3 e4 W h
  have HI2 := LH hi.lose
  have HLN : Hid ((L ++ R).length ≤ j + 1) := LH (Nat.le_succ_of_le hlen)
  have HSM : Hid (sumC g.buf.chs ≤ 16 * ((j + 1 : Nat) : Int)) := LH (by omega)
  have HW := LH hw
  have HQ := LH hQ
  generalize loS true s q = s2 at *
  obtain ⟨q0, q1, q2⟩ := hb.cells
  clear hi hsum hlen hw hb hQ k1 k2 k3 k4
  obtain ⟨a0, a1, a2, a3, a4, a5, a6, a7, a8, a9, a10, a11⟩ := HW.out.cells
  conv => arg 2; whnf
  go_wp2_with fail
  refine (HA.out _ HW.out.os.read).mono ?_
  rintro e w6 ⟨x1, x2, x3, x4, rfl, ho, hb⟩
  obtain ⟨X1, X2, X3, X4, f1, f2, f3, f4, rfl, rfl, rfl, rfl, _, _, _, _⟩ := ho.frs
  have HW6 := LH ((HW.out.next hb).putS HW.out.lows ho)
  have HW7 := LH (HW.out.next hb)
  clear ho hb a0 a1 a2 a3 a4 a5 a6 a7 a8 a9 a10 a11 q0 q1 q2 HA HW
  obtain ⟨a0, a1, a2, a3, a4, a5, a6, a7, a8, a9, a10, a11⟩ := HW7.out.cells
  have pf := HW7.out.free
  go_wp2
  exact HQ.out _ _ _ _ ⟨s2, _, _, _, _, g, _, _, HSM.out, HLN.out, HW6.out, HI2.out⟩
theorem r24  {Q : Exit → Act → World → Prop} {A : Option Addr} {len cap : Nat} {w W : World} {gs gg j n cp : Nat} {P : Option Addr} {x : Int}
    (hj : j < 60) (hn : 0 < n) (hn2 : n ≤ 60) (hx : 0 ≤ x ∧ x ≤ 255) (hb : Below w.heap.size w W) (hat : ∀ W, Below w.heap.size w W → Calls Tryz.prog 8 #[.slice A len cap, .int .i64 ((j : Int) + 9)] W fun e w' => e = .returned (.int .i64 x) ∧ W = w')
    (hQ : ∀ (u110 u111 u112 u113 u114 u115 u116 : Value) (k : Nat), k < n → Q .normal ⟨#[.slice A len cap, c1, c2, .pointer (some ⟨gs, 0, none⟩), c4, c5, c6, c7, .pointer (some ⟨gg, 0, none⟩), .slice P n cp, .int .i64 (j : Int), c11, c12, c13, c14, .int .i64 (k : Int), c16, c17, c18, c19, c20, c21, c22, c23, c24, c25, c26, c27, c28, c29, c30, c31, c32, c33, c34, c35, c36, c37, c38, c39, c40, c41, c42, c43, c44, c45, c46, c47, c48, c49, c50, c51, c52, c53, c54, c55, c56, c57, c58, c59, c60, c61, c62, c63, c64, c65, c66, c67, c68, c69, c70, c71, c72, c73, c74, c75, c76, c77, c78, c79, c80, c81, c82, c83, c84, c85, c86, c87, c88, c89, c90, c91, c92, c93, c94, c95, c96, c97, c98, c99, c100, c101, c102, c103, c104, c105, c106, c107, c108, c109, u110, u111, u112, u113, u114, u115, u116, c117, c118, c119, c120, c121, c122, c123, c124, c125, c126, c127, c128, c129, c130, c131, c132, c133, c134, c135, c136, c137, c138, c139, c140, c141, c142, c143, c144, c145, c146, c147, c148, c149, c150, c151, c152, c153, c154, c155, c156, c157, c158, c159, c160, c161, c162, c163, c164, c165, c166, c167, c168, c169, c170, c171, c172, c173, c174, c175, c176, c177, c178, c179, c180, c181, c182], []⟩ W) :
    _root_.Go.Code.wp Tryz.prog (regAt 24) Q ⟨#[.slice A len cap, c1, c2, .pointer (some ⟨gs, 0, none⟩), c4, c5, c6, c7, .pointer (some ⟨gg, 0, none⟩), .slice P n cp, .int .i64 (j : Int), c11, c12, c13, c14, c15, c16, c17, c18, c19, c20, c21, c22, c23, c24, c25, c26, c27, c28, c29, c30, c31, c32, c33, c34, c35, c36, c37, c38, c39, c40, c41, c42, c43, c44, c45, c46, c47, c48, c49, c50, c51, c52, c53, c54, c55, c56, c57, c58, c59, c60, c61, c62, c63, c64, c65, c66, c67, c68, c69, c70, c71, c72, c73, c74, c75, c76, c77, c78, c79, c80, c81, c82, c83, c84, c85, c86, c87, c88, c89, c90, c91, c92, c93, c94, c95, c96, c97, c98, c99, c100, c101, c102, c103, c104, c105, c106, c107, c108, c109, c110, c111, c112, c113, c114, c115, c116, c117, c118, c119, c120, c121, c122, c123, c124, c125, c126, c127, c128, c129, c130, c131, c132, c133, c134, c135, c136, c137, c138, c139, c140, c141, c142, c143, c144, c145, c146, c147, c148, c149, c150, c151, c152, c153, c154, c155, c156, c157, c158, c159, c160, c161, c162, c163, c164, c165, c166, c167, c168, c169, c170, c171, c172, c173, c174, c175, c176, c177, c178, c179, c180, c181, c182], []⟩ W := by
  have hw : wrap64 ((j : Int) + 9) = (j : Int) + 9 := by unfold wrap64; omega
  have hz : ¬ ((n : Nat) : Int) = 0 := by omega
  obtain ⟨k, hk⟩ := Int.eq_ofNat_of_zero_le (show 0 ≤ x.tmod n by rw [Int.tmod_eq_emod_of_nonneg hx.1]; exact Int.emod_nonneg _ hz)
  have hk2 : k < n := by
    have h := Int.emod_lt_of_pos x (show (0 : Int) < n by omega)
    rw [← Int.tmod_eq_emod_of_nonneg hx.1] at h
    omega
  have HK := LH hk2
  have HQ := LH hQ
  have hk3 := LH hk
  clear hx hn hn2 hj hk2 hQ hk
  conv => arg 2; whnf
  go_wp2_with fail
  refine (hat _ hb).mono ?_
  rintro e w3 ⟨rfl, rfl⟩
  go_wp2
  rw [hk3.out]
  exact HQ.out _ _ _ _ _ _ _ k HK.out
end Go.Proofs.YtdaoaedkjoknmaaGreat
