/-
  Contracts and lemmas for the law on draining.
-/
import Derived.Test.YtdaoaedkjoknmaaGreatDrZ0
import Derived.Test.YtdaoaedkjoknmaaGreatDrZ47
set_option maxRecDepth 1000000
set_option maxHeartbeats 8000000
namespace Go.Proofs.YtdaoaedkjoknmaaGreat
open Go.RowKit Go.Deep Go.Proofs.YtdaoaedkjoknmaaGreat.Num

variable {c1 c2 c3 c4 c5 c6 c7 c8 c9 c10 c11 c12 c13 c14 c15 c16 c17 c18 c19 c20 c21 c22 c23 c24 c25 c26 c27 c28 c29 c30 c31 c32 c33 c34 c35 c36 c37 c38 c39 c40 c41 c42 c43 c44 c45 c46 c47 c48 c49 c50 c51 c52 c53 c54 c55 c56 c57 c58 c59 c60 c61 c62 c63 c64 c65 c66 c67 c68 c69 c70 c71 c72 c73 c74 c75 c76 c77 c78 c79 c80 c81 c82 c83 c84 c85 c86 c87 c88 c89 c90 c91 c92 c93 c94 c95 c96 c97 c98 c99 c100 c101 c102 c103 c104 c105 c106 c107 c108 c109 c110 c111 c112 c113 c114 c115 c116 c117 c118 c119 c120 c121 c122 c123 c124 c125 c126 c127 c128 c129 c130 c131 c132 c133 c134 c135 c136 c137 c138 c139 c140 c141 c142 c143 c144 c145 c146 c147 c148 c149 c150 c151 c152 c153 c154 c155 c156 c157 c158 c159 c160 c161 c162 c163 c164 c165 c166 c167 c168 c169 c170 c171 c172 c173 c174 c175 c176 c177 c178 c179 c180 c181 c182 : Value}
theorem pcs_left {w : World} {B b off : Nat} {L R : List Pc} (h : Pcs w B (some ⟨b, off, none⟩) (L ++ R)) : Pcs w B (some ⟨b, off, none⟩) L := fun j hj => by
  obtain ⟨b', off', e, hb, hc⟩ := h j (by simp; omega)
  refine ⟨b', off', e, hb, fun i hi => ?_⟩
  rw [hc i hi, List.getElem_append_left hj]
theorem pcs_right {w : World} {B b off : Nat} {L R : List Pc} {q : Pc} (h : Pcs w B (some ⟨b, off, none⟩) (L ++ q :: R)) : Pcs w B (some ⟨b, off + (L.length + 1) * 3, none⟩) R := fun j hj => by
  obtain ⟨b', off', e, hb, hc⟩ := h (L.length + 1 + j) (by simp; omega)
  injection e with e
  injection e with e1 e2
  subst e1 e2
  refine ⟨b, _, rfl, hb, fun i hi => ?_⟩
  have h2 := hc i hi
  rw [show off + (L.length + 1) * 3 + j * 3 + i = off + (L.length + 1 + j) * 3 + i by omega, h2, List.getElem_append_right (by omega)]
  congr 2
  simp [show L.length + 1 + j - L.length = j + 1 by omega]
theorem r26  {K : Act → World → Prop} {A : Option Addr} {len cap : Nat} {W : World} {gs gg j n cp k pb po : Nat} {L R : List Pc} {q : Pc}
    (hp : Pcs W W.heap.size (some ⟨pb, po, none⟩) (L ++ q :: R)) (hn : n = (L ++ q :: R).length) (hk : k = L.length) (hc : n ≤ cp) (h60 : n ≤ 60)
    (hQ : ∀ (u121 u122 u123 u124 u125 u126 u127 u128 u129 u130 : Value) (pv' : Value) (W' : World), Below W.heap.size W W' → OwnPc W' W.heap.size pv' (L ++ R) → K ⟨#[.slice A len cap, c1, c2, .pointer (some ⟨gs, 0, none⟩), c4, c5, c6, c7, .pointer (some ⟨gg, 0, none⟩), pv', .int .i64 (j : Int), c11, c12, c13, c14, .int .i64 (k : Int), c16, c17, c18, c19, c20, c21, c22, c23, c24, c25, c26, c27, c28, c29, c30, c31, c32, c33, c34, c35, c36, c37, c38, c39, c40, c41, c42, c43, c44, c45, c46, c47, c48, c49, c50, c51, c52, c53, c54, c55, c56, c57, c58, c59, c60, c61, c62, c63, c64, c65, c66, c67, c68, c69, c70, c71, c72, c73, c74, c75, c76, c77, c78, c79, c80, c81, c82, c83, c84, c85, c86, c87, c88, c89, c90, c91, c92, c93, c94, c95, c96, c97, c98, c99, c100, c101, c102, c103, c104, c105, c106, c107, c108, c109, c110, c111, c112, c113, c114, c115, c116, c117, c118, c119, c120, u121, u122, u123, u124, u125, u126, u127, u128, u129, u130, c131, c132, c133, c134, c135, c136, c137, c138, c139, c140, c141, c142, c143, c144, c145, c146, c147, c148, c149, c150, c151, c152, c153, c154, c155, c156, c157, c158, c159, c160, c161, c162, c163, c164, c165, c166, c167, c168, c169, c170, c171, c172, c173, c174, c175, c176, c177, c178, c179, c180, c181, c182], []⟩ W') :
    _root_.Go.Code.wp Tryz.prog (regAt 26) (Exit.then K fun _ _ _ => False) ⟨#[.slice A len cap, c1, c2, .pointer (some ⟨gs, 0, none⟩), c4, c5, c6, c7, .pointer (some ⟨gg, 0, none⟩), .slice (some ⟨pb, po, none⟩) n cp, .int .i64 (j : Int), c11, c12, c13, c14, .int .i64 (k : Int), c16, c17, c18, c19, c20, c21, c22, c23, c24, c25, c26, c27, c28, c29, c30, c31, c32, c33, c34, c35, c36, c37, c38, c39, c40, c41, c42, c43, c44, c45, c46, c47, c48, c49, c50, c51, c52, c53, c54, c55, c56, c57, c58, c59, c60, c61, c62, c63, c64, c65, c66, c67, c68, c69, c70, c71, c72, c73, c74, c75, c76, c77, c78, c79, c80, c81, c82, c83, c84, c85, c86, c87, c88, c89, c90, c91, c92, c93, c94, c95, c96, c97, c98, c99, c100, c101, c102, c103, c104, c105, c106, c107, c108, c109, c110, c111, c112, c113, c114, c115, c116, c117, c118, c119, c120, c121, c122, c123, c124, c125, c126, c127, c128, c129, c130, c131, c132, c133, c134, c135, c136, c137, c138, c139, c140, c141, c142, c143, c144, c145, c146, c147, c148, c149, c150, c151, c152, c153, c154, c155, c156, c157, c158, c159, c160, c161, c162, c163, c164, c165, c166, c167, c168, c169, c170, c171, c172, c173, c174, c175, c176, c177, c178, c179, c180, c181, c182], []⟩ W := by
  have HQ := LH hQ
  have HP := LH hp
  have hlen : (L ++ q :: R).length = L.length + 1 + R.length := by simp; omega
  have h1 : (k : Int) ≤ (cp : Int) := by omega
  have h2 : ((k : Int) + 1) ≤ (n : Int) := by omega
  have hw : IntKind.i64.wrap ((k : Int) + 1) = (k : Int) + 1 := by rw [IntKind.wrap_i64]; omega
  have hw2 : wrap64 ((k : Int) + 1) = (k : Int) + 1 := by unfold wrap64; omega
  have HKL : Hid (L.length = k) := LH hk.symm
  have HKR : Hid (R.length = n - (k + 1)) := LH (by omega)
  have HPL := LH (pcs_left hp)
  have HPR := LH (pcs_right hp)
  rw [HKL.out] at HPR
  have h0 : 0 ≤ (k : Int) + 1 := by omega
  obtain ⟨po2, hif, hpr2⟩ : ∃ po2 : Nat, ((if cp = k + 1 then some ⟨pb, po, none⟩ else some ⟨pb, po + (k + 1) * 3, none⟩ : Option Addr) = some ⟨pb, po2, none⟩) ∧ Pcs W W.heap.size (some ⟨pb, po2, none⟩) R := by
    by_cases hcp : cp = k + 1
    · refine ⟨po, if_pos hcp, ?_⟩
      have : R = [] := List.eq_nil_of_length_eq_zero (by have := HKR.out; omega)
      rw [this]
      exact Pcs.nil
    · exact ⟨_, if_neg hcp, HPR.out⟩
  have HPR := LH hpr2
  clear hpr2
  have HBL0 := LH ((Below.refl W.heap.size W).alloc (Nat.le_refl _) (.cells #[] 44)).drew
  have HO0 := LH (show OwnPc (W.alloc (.cells #[] 44)).drew W.heap.size (.slice (some ⟨W.heap.size, 0, none⟩) 0 0) [] from OwnPc.litAt W W.heap.size W.heap.size rfl (Nat.le_refl _))
  have HP0 := LH (HPL.out.below (Nat.le_refl _) HBL0.out)
  have HZ1 : Hid (([] : List Pc).length + k ≤ 1000000000) := LH (by simp; omega)
  have HZ2 : Hid (L.length + (n - (k + 1)) ≤ 1000000000) := LH (by omega)
  clear hQ hp hn hk hlen hc h60
  conv => arg 2; whnf
  go_region_law (first | (refine step_append_pc2 _ rfl _ _ rfl W.heap.size _ [] rfl HO0.out pb po k cp W.heap.size L rfl HKL.out HP0.out HZ1.out HBL0.out.size ?_; intro v1 w1 hown1 hgr1 hk1; have HB1 := LH (HBL0.out.trans (only_below hgr1 (Nat.le_refl _) HBL0.out.size)); obtain ⟨A1, c1', rfl, _, _⟩ := hown1.frs; have HO1 := LH hown1; have HP1 := LH (HPR.out.below (Nat.le_refl _) HB1.out); clear hown1 hgr1 hk1) | (refine step_append_pc2 _ rfl _ _ rfl W.heap.size _ L rfl HO1.out pb po2 (n - (k + 1)) (cp - (k + 1)) W.heap.size R rfl HKR.out HP1.out HZ2.out HB1.out.size ?_; intro v2 w2 hown2 hgr2 hk2; have HB2 := LH (HB1.out.grown hgr2 HB1.out.size (fun k hk => (HO1.out.lt k hk).1)); have HO2 := LH hown2; obtain ⟨A2, c2', rfl, _, _⟩ := hown2.frs; clear hown2 hgr2 hk2))
  all_goals (
    go_wp2
    exact HQ.out _ _ _ _ _ _ _ _ _ _ _ _ HB2.out (by have h := HO2.out; rw [List.length_append] at h; exact h))
end Go.Proofs.YtdaoaedkjoknmaaGreat
