/-
  Contracts and lemmas for the law on draining.
-/
import Derived.Test.YtdaoaedkjoknmaaGreatDrZ0
import Derived.Test.YtdaoaedkjoknmaaGreatDrZ46
set_option maxRecDepth 1000000
set_option maxHeartbeats 8000000
namespace Go.Proofs.YtdaoaedkjoknmaaGreat
open Go.RowKit Go.Deep Go.Proofs.YtdaoaedkjoknmaaGreat.Num

variable {c1 c2 c3 c4 c5 c6 c7 c8 c9 c10 c11 c12 c13 c14 c15 c16 c17 c18 c19 c20 c21 c22 c23 c24 c25 c26 c27 c28 c29 c30 c31 c32 c33 c34 c35 c36 c37 c38 c39 c40 c41 c42 c43 c44 c45 c46 c47 c48 c49 c50 c51 c52 c53 c54 c55 c56 c57 c58 c59 c60 c61 c62 c63 c64 c65 c66 c67 c68 c69 c70 c71 c72 c73 c74 c75 c76 c77 c78 c79 c80 c81 c82 c83 c84 c85 c86 c87 c88 c89 c90 c91 c92 c93 c94 c95 c96 c97 c98 c99 c100 c101 c102 c103 c104 c105 c106 c107 c108 c109 c110 c111 c112 c113 c114 c115 c116 c117 c118 c119 c120 c121 c122 c123 c124 c125 c126 c127 c128 c129 c130 c131 c132 c133 c134 c135 c136 c137 c138 c139 c140 c141 c142 c143 c144 c145 c146 c147 c148 c149 c150 c151 c152 c153 c154 c155 c156 c157 c158 c159 c160 c161 c162 c163 c164 c165 c166 c167 c168 c169 c170 c171 c172 c173 c174 c175 c176 c177 c178 c179 c180 c181 c182 : Value}
theorem r25  {Q : Exit → Act → World → Prop} {A : Option Addr} {len cap : Nat} {W : World} {gs gg j n cp k : Nat} {P : Option Addr} {ps : List Pc}
    (hp : Pcs W W.heap.size P ps) (hn : n = ps.length) (hk : k < ps.length)
    (hQ : ∀ (u117 u118 u119 u120 : Value) (W' : World) (gq : Nat), Below W.heap.size W W' → W.heap.size ≤ gq → BoxPc W' gq ps[k] → Q .normal ⟨#[.slice A len cap, c1, c2, .pointer (some ⟨gs, 0, none⟩), c4, c5, c6, c7, .pointer (some ⟨gg, 0, none⟩), .slice P n cp, .int .i64 (j : Int), c11, c12, c13, c14, .int .i64 (k : Int), .pointer (some ⟨gq, 0, none⟩), c17, c18, c19, c20, c21, c22, c23, c24, c25, c26, c27, c28, c29, c30, c31, c32, c33, c34, c35, c36, c37, c38, c39, c40, c41, c42, c43, c44, c45, c46, c47, c48, c49, c50, c51, c52, c53, c54, c55, c56, c57, c58, c59, c60, c61, c62, c63, c64, c65, c66, c67, c68, c69, c70, c71, c72, c73, c74, c75, c76, c77, c78, c79, c80, c81, c82, c83, c84, c85, c86, c87, c88, c89, c90, c91, c92, c93, c94, c95, c96, c97, c98, c99, c100, c101, c102, c103, c104, c105, c106, c107, c108, c109, c110, c111, c112, c113, c114, c115, c116, u117, u118, u119, u120, c121, c122, c123, c124, c125, c126, c127, c128, c129, c130, c131, c132, c133, c134, c135, c136, c137, c138, c139, c140, c141, c142, c143, c144, c145, c146, c147, c148, c149, c150, c151, c152, c153, c154, c155, c156, c157, c158, c159, c160, c161, c162, c163, c164, c165, c166, c167, c168, c169, c170, c171, c172, c173, c174, c175, c176, c177, c178, c179, c180, c181, c182], []⟩ W') :
    _root_.Go.Code.wp Tryz.prog (regAt 25) Q ⟨#[.slice A len cap, c1, c2, .pointer (some ⟨gs, 0, none⟩), c4, c5, c6, c7, .pointer (some ⟨gg, 0, none⟩), .slice P n cp, .int .i64 (j : Int), c11, c12, c13, c14, .int .i64 (k : Int), c16, c17, c18, c19, c20, c21, c22, c23, c24, c25, c26, c27, c28, c29, c30, c31, c32, c33, c34, c35, c36, c37, c38, c39, c40, c41, c42, c43, c44, c45, c46, c47, c48, c49, c50, c51, c52, c53, c54, c55, c56, c57, c58, c59, c60, c61, c62, c63, c64, c65, c66, c67, c68, c69, c70, c71, c72, c73, c74, c75, c76, c77, c78, c79, c80, c81, c82, c83, c84, c85, c86, c87, c88, c89, c90, c91, c92, c93, c94, c95, c96, c97, c98, c99, c100, c101, c102, c103, c104, c105, c106, c107, c108, c109, c110, c111, c112, c113, c114, c115, c116, c117, c118, c119, c120, c121, c122, c123, c124, c125, c126, c127, c128, c129, c130, c131, c132, c133, c134, c135, c136, c137, c138, c139, c140, c141, c142, c143, c144, c145, c146, c147, c148, c149, c150, c151, c152, c153, c154, c155, c156, c157, c158, c159, c160, c161, c162, c163, c164, c165, c166, c167, c168, c169, c170, c171, c172, c173, c174, c175, c176, c177, c178, c179, c180, c181, c182], []⟩ W := by
  obtain ⟨b, off, rfl, hb, q0, q1, q2⟩ := hp.cells k hk
  have HQ := LH hQ
  subst hn
  have HBX := LH (BoxPc.new W ps[k])
  have HBL := LH ((Below.refl W.heap.size W).alloc (Nat.le_refl _) (.cells #[.int .i64 ps[k].off, .string ps[k].data, .bool ps[k].fin] 44))
  generalize ps[k] = q at *
  have hlt : (k : Int) < (ps.length : Int) := by omega
  clear hQ hp hb
  conv => arg 2; whnf
  go_wp2
  exact HQ.out _ _ _ _ _ _ HBL.out (Nat.le_refl _) HBX.out
theorem r23  {Q : Exit → Act → World → Prop} {A : Option Addr} {len cap : Nat} {W : World} {gs gg j n cp : Nat} {P : Option Addr}
    
    (hQ : ∀ (u107 u108 u109 : Value) (b : Bool), (b = true → 0 < n) → (b = false → n = 0) → Q .normal ⟨#[.slice A len cap, c1, c2, .pointer (some ⟨gs, 0, none⟩), c4, c5, c6, c7, .pointer (some ⟨gg, 0, none⟩), .slice P n cp, .int .i64 (j : Int), c11, c12, c13, c14, c15, c16, c17, c18, c19, c20, c21, c22, c23, c24, c25, c26, c27, c28, c29, c30, c31, c32, c33, c34, c35, c36, c37, c38, c39, c40, c41, c42, c43, c44, c45, c46, c47, c48, c49, c50, c51, c52, c53, c54, c55, c56, c57, c58, c59, c60, c61, c62, c63, c64, c65, c66, c67, c68, c69, c70, c71, c72, c73, c74, c75, c76, c77, c78, c79, c80, c81, c82, c83, c84, c85, c86, c87, c88, c89, c90, c91, c92, c93, c94, c95, c96, c97, c98, c99, c100, c101, c102, c103, c104, c105, .bool b, u107, u108, u109, c110, c111, c112, c113, c114, c115, c116, c117, c118, c119, c120, c121, c122, c123, c124, c125, c126, c127, c128, c129, c130, c131, c132, c133, c134, c135, c136, c137, c138, c139, c140, c141, c142, c143, c144, c145, c146, c147, c148, c149, c150, c151, c152, c153, c154, c155, c156, c157, c158, c159, c160, c161, c162, c163, c164, c165, c166, c167, c168, c169, c170, c171, c172, c173, c174, c175, c176, c177, c178, c179, c180, c181, c182], []⟩ W) :
    _root_.Go.Code.wp Tryz.prog (regAt 23) Q ⟨#[.slice A len cap, c1, c2, .pointer (some ⟨gs, 0, none⟩), c4, c5, c6, c7, .pointer (some ⟨gg, 0, none⟩), .slice P n cp, .int .i64 (j : Int), c11, c12, c13, c14, c15, c16, c17, c18, c19, c20, c21, c22, c23, c24, c25, c26, c27, c28, c29, c30, c31, c32, c33, c34, c35, c36, c37, c38, c39, c40, c41, c42, c43, c44, c45, c46, c47, c48, c49, c50, c51, c52, c53, c54, c55, c56, c57, c58, c59, c60, c61, c62, c63, c64, c65, c66, c67, c68, c69, c70, c71, c72, c73, c74, c75, c76, c77, c78, c79, c80, c81, c82, c83, c84, c85, c86, c87, c88, c89, c90, c91, c92, c93, c94, c95, c96, c97, c98, c99, c100, c101, c102, c103, c104, c105, c106, c107, c108, c109, c110, c111, c112, c113, c114, c115, c116, c117, c118, c119, c120, c121, c122, c123, c124, c125, c126, c127, c128, c129, c130, c131, c132, c133, c134, c135, c136, c137, c138, c139, c140, c141, c142, c143, c144, c145, c146, c147, c148, c149, c150, c151, c152, c153, c154, c155, c156, c157, c158, c159, c160, c161, c162, c163, c164, c165, c166, c167, c168, c169, c170, c171, c172, c173, c174, c175, c176, c177, c178, c179, c180, c181, c182], []⟩ W := by
  have HQ := LH hQ
  clear hQ
  by_cases h : 0 < n
  · have d0 : decide (0 < n) = true := decide_eq_true h
    have H0 := LH h
    clear h
    conv => arg 2; whnf
    go_wp2
    exact HQ.out _ _ _ true (fun _ => H0.out) (fun e => by cases e)
  · have d0 : decide (0 < n) = false := decide_eq_false h
    have H0 : Hid (n = 0) := LH (by omega)
    clear h
    conv => arg 2; whnf
    go_wp2
    exact HQ.out _ _ _ false (fun e => by cases e) (fun _ => H0.out)
theorem r17  {Q : Exit → Act → World → Prop} {A : Option Addr} {len cap : Nat} {w W : World} {gs gg j n cp : Nat} {P : Option Addr} {x : Int} {z : Bool}
    (hj : j < 60) (hb : Below w.heap.size w W) (hat : ∀ W, Below w.heap.size w W → Calls Tryz.prog 8 #[.slice A len cap, .int .i64 ((j : Int) + 7)] W fun e w' => e = .returned (.int .i64 x) ∧ W = w')
    (hQ : ∀ (u79 u80 u81 u82 u83 u84 u85 u86 u87 u88 u89 u90 u91 u92 : Value) (c : Bool), (c = true → z = true) → Q .normal ⟨#[.slice A len cap, c1, c2, .pointer (some ⟨gs, 0, none⟩), c4, c5, c6, c7, .pointer (some ⟨gg, 0, none⟩), .slice P n cp, .int .i64 (j : Int), c11, .bool z, c13, c14, c15, c16, c17, c18, c19, c20, c21, c22, c23, c24, c25, c26, c27, c28, c29, c30, c31, c32, c33, c34, c35, c36, c37, c38, c39, c40, c41, c42, c43, c44, c45, c46, c47, c48, c49, c50, c51, c52, c53, c54, c55, c56, c57, c58, c59, c60, c61, c62, c63, c64, c65, c66, c67, c68, c69, c70, c71, c72, c73, c74, c75, c76, c77, .bool c, u79, u80, u81, u82, u83, u84, u85, u86, u87, u88, u89, u90, u91, u92, c93, c94, c95, c96, c97, c98, c99, c100, c101, c102, c103, c104, c105, c106, c107, c108, c109, c110, c111, c112, c113, c114, c115, c116, c117, c118, c119, c120, c121, c122, c123, c124, c125, c126, c127, c128, c129, c130, c131, c132, c133, c134, c135, c136, c137, c138, c139, c140, c141, c142, c143, c144, c145, c146, c147, c148, c149, c150, c151, c152, c153, c154, c155, c156, c157, c158, c159, c160, c161, c162, c163, c164, c165, c166, c167, c168, c169, c170, c171, c172, c173, c174, c175, c176, c177, c178, c179, c180, c181, c182], []⟩ W) :
    _root_.Go.Code.wp Tryz.prog (regAt 17) Q ⟨#[.slice A len cap, c1, c2, .pointer (some ⟨gs, 0, none⟩), c4, c5, c6, c7, .pointer (some ⟨gg, 0, none⟩), .slice P n cp, .int .i64 (j : Int), c11, .bool z, c13, c14, c15, c16, c17, c18, c19, c20, c21, c22, c23, c24, c25, c26, c27, c28, c29, c30, c31, c32, c33, c34, c35, c36, c37, c38, c39, c40, c41, c42, c43, c44, c45, c46, c47, c48, c49, c50, c51, c52, c53, c54, c55, c56, c57, c58, c59, c60, c61, c62, c63, c64, c65, c66, c67, c68, c69, c70, c71, c72, c73, c74, c75, c76, c77, c78, c79, c80, c81, c82, c83, c84, c85, c86, c87, c88, c89, c90, c91, c92, c93, c94, c95, c96, c97, c98, c99, c100, c101, c102, c103, c104, c105, c106, c107, c108, c109, c110, c111, c112, c113, c114, c115, c116, c117, c118, c119, c120, c121, c122, c123, c124, c125, c126, c127, c128, c129, c130, c131, c132, c133, c134, c135, c136, c137, c138, c139, c140, c141, c142, c143, c144, c145, c146, c147, c148, c149, c150, c151, c152, c153, c154, c155, c156, c157, c158, c159, c160, c161, c162, c163, c164, c165, c166, c167, c168, c169, c170, c171, c172, c173, c174, c175, c176, c177, c178, c179, c180, c181, c182], []⟩ W := by
  have HQ := LH hQ
  have hw : wrap64 ((j : Int) + 7) = (j : Int) + 7 := by unfold wrap64; omega
  have hz : ¬ (3 : Int) = 0 := by decide
  clear hQ hj
  cases z with
  | false =>
    conv => arg 2; whnf
    go_wp2
    exact HQ.out _ _ _ _ _ _ _ _ _ _ _ _ _ _ false (fun h => by cases h)
  | true =>
    by_cases h : n = 0
    · have d0 : ((n : Int) == 0) = true := by simpa using h
      clear h
      conv => arg 2; whnf
      go_wp2
      exact HQ.out _ _ _ _ _ _ _ _ _ _ _ _ _ _ true (fun h => by first | rfl | trivial)
    have d0 : ((n : Int) == 0) = false := by simpa using h
    by_cases h3 : 0 < x.tmod 3
    · have d1 : decide (0 < x.tmod 3) = true := decide_eq_true h3
      clear h h3
      conv => arg 2; whnf
      go_wp2_with fail
      refine (hat _ hb).mono ?_
      rintro e w3 ⟨rfl, rfl⟩
      go_wp2
      exact HQ.out _ _ _ _ _ _ _ _ _ _ _ _ _ _ true (fun h => by first | rfl | trivial)
    · have d1 : decide (0 < x.tmod 3) = false := decide_eq_false h3
      clear h h3
      conv => arg 2; whnf
      go_wp2_with fail
      refine (hat _ hb).mono ?_
      rintro e w3 ⟨rfl, rfl⟩
      go_wp2
      exact HQ.out _ _ _ _ _ _ _ _ _ _ _ _ _ _ false (fun h => by cases h)
theorem OwnSn.later2 {w w' : World} {B : Nat} {v1 v2 v3 v4 : Value} {s : Sn} (h : OwnSn w B v1 v2 v3 v4 s) (hb : Below w.heap.size w w') : OwnSn w' B v1 v2 v3 v4 s := OwnS.later h hb
theorem sn_cells {W : World} {g : Nat} {s : Sn} {v1 v2 v3 v4 : Value} (h : W.heap[g]? = some (.cells (snB s v1 v2 v3 v4) 29 (0, 0))) : Cell12 W g s.st s.rn.size s.rn.base s.rn.en v1 v2 v3 v4 s.fin s.fi s.sent s.code :=
  ⟨cell_of_row W g 0 _ _ _ h, cell_of_row W g 1 _ _ _ h, cell_of_row W g 2 _ _ _ h, cell_of_row W g 3 _ _ _ h, cell_of_row W g 4 _ _ _ h, cell_of_row W g 5 _ _ _ h, cell_of_row W g 6 _ _ _ h, cell_of_row W g 7 _ _ _ h, cell_of_row W g 8 _ _ _ h, cell_of_row W g 9 _ _ _ h, cell_of_row W g 10 _ _ _ h, cell_of_row W g 11 _ _ _ h⟩
theorem t18  {Q : Exit → Act → World → Prop} {A : Option Addr} {len cap : Nat} {w W : World} {gs gg gp j n cp : Nat} {P : Option Addr} {s : Sn} {v1 v2 v3 v4 : Value} {g : Rc} {u : Value} {ps : List Pc} {p : Pc} {m : Int} {T : ByteArray}
    (hw : DrW w W gs gg s v1 v2 v3 v4 g u ps (.slice P n cp)) (hi : DrI T s g ps) (hn : nxS true s m 100 = some p) (hb : BoxPc W gp p) (hg1 : gs < gp) (hg2 : gg < gp) (hsum : sumC g.buf.chs ≤ 16 * (j : Int)) (hj : j < 60) (hlen : ps.length ≤ j)
    (hQ : ∀ (u13 u14 u93 u94 u95 u96 u97 u98 u99 u100 u101 u102 u103 u104 u105 : Value) (pv' : Value) (W' : World), DrInv w W' gs gg T (j + 1) pv' → Q .normal ⟨#[.slice A len cap, c1, c2, .pointer (some ⟨gs, 0, none⟩), c4, c5, c6, c7, .pointer (some ⟨gg, 0, none⟩), pv', .int .i64 (j : Int), .pointer (some ⟨gp, 0, none⟩), c12, u13, u14, c15, c16, c17, c18, c19, c20, c21, c22, c23, c24, c25, c26, c27, c28, c29, c30, c31, c32, c33, c34, c35, c36, c37, c38, c39, c40, c41, c42, c43, c44, c45, c46, c47, c48, c49, c50, c51, c52, c53, c54, c55, c56, c57, c58, c59, c60, c61, c62, c63, c64, c65, c66, c67, c68, c69, c70, c71, c72, c73, c74, c75, c76, c77, c78, c79, c80, c81, c82, c83, c84, c85, c86, c87, c88, c89, c90, c91, c92, u93, u94, u95, u96, u97, u98, u99, u100, u101, u102, u103, u104, u105, c106, c107, c108, c109, c110, c111, c112, c113, c114, c115, c116, c117, c118, c119, c120, c121, c122, c123, c124, c125, c126, c127, c128, c129, c130, c131, c132, c133, c134, c135, c136, c137, c138, c139, c140, c141, c142, c143, c144, c145, c146, c147, c148, c149, c150, c151, c152, c153, c154, c155, c156, c157, c158, c159, c160, c161, c162, c163, c164, c165, c166, c167, c168, c169, c170, c171, c172, c173, c174, c175, c176, c177, c178, c179, c180, c181, c182], []⟩ W') :
    _root_.Go.Code.wp Tryz.prog (codeAt 18) Q ⟨#[.slice A len cap, c1, c2, .pointer (some ⟨gs, 0, none⟩), c4, c5, c6, c7, .pointer (some ⟨gg, 0, none⟩), .slice P n cp, .int .i64 (j : Int), .pointer (some ⟨gp, 0, none⟩), c12, c13, c14, c15, c16, c17, c18, c19, c20, c21, c22, c23, c24, c25, c26, c27, c28, c29, c30, c31, c32, c33, c34, c35, c36, c37, c38, c39, c40, c41, c42, c43, c44, c45, c46, c47, c48, c49, c50, c51, c52, c53, c54, c55, c56, c57, c58, c59, c60, c61, c62, c63, c64, c65, c66, c67, c68, c69, c70, c71, c72, c73, c74, c75, c76, c77, c78, c79, c80, c81, c82, c83, c84, c85, c86, c87, c88, c89, c90, c91, c92, c93, c94, c95, c96, c97, c98, c99, c100, c101, c102, c103, c104, c105, c106, c107, c108, c109, c110, c111, c112, c113, c114, c115, c116, c117, c118, c119, c120, c121, c122, c123, c124, c125, c126, c127, c128, c129, c130, c131, c132, c133, c134, c135, c136, c137, c138, c139, c140, c141, c142, c143, c144, c145, c146, c147, c148, c149, c150, c151, c152, c153, c154, c155, c156, c157, c158, c159, c160, c161, c162, c163, c164, c165, c166, c167, c168, c169, c170, c171, c172, c173, c174, c175, c176, c177, c178, c179, c180, c181, c182], []⟩ W := by
  obtain ⟨A1, A2, A3, A4, e1, e2, e3, e4, rfl, rfl, rfl, rfl, k1, k2, k3, k4⟩ := hw.os.frs
  have HA := LH fun W h => dr_send hi hn A1 A2 A3 A4 e1 e2 e3 e4 W h
  have HI2 := LH (hi.send hn).1
  have HLN : Hid ((ps ++ [p]).length ≤ j + 1) := LH (by simp; omega)
  have HL6 : Hid (ps.length + 1 ≤ 1000000000) := LH (by omega)
  have HSM : Hid (sumC g.buf.chs ≤ 16 * ((j + 1 : Nat) : Int)) := LH (by omega)
  have HW := LH hw
  have HB := LH hb
  have HQ := LH hQ
  have HG := LH (And.intro hg1 hg2)
  generalize sdS true s p = s2 at *
  clear hi hsum hlen hw hb hQ k1 k2 k3 k4 hn hj hg1 hg2
  obtain ⟨q0, q1, q2⟩ := HB.out.cells
  obtain ⟨a0, a1, a2, a3, a4, a5, a6, a7, a8, a9, a10, a11⟩ := HW.out.cells
  conv => arg 2; whnf
  go_wp2_with fail
  refine (HA.out _ HW.out.os.read).mono ?_
  rintro e w3 ⟨x1, x2, x3, x4, rfl, ho, hb⟩
  obtain ⟨X1, X2, X3, X4, f1, f2, f3, f4, rfl, rfl, rfl, rfl, _, _, _, _⟩ := ho.frs
  have HLo := LH HW.out.lows
  have HOX := LH (OwnSn.later2 ho ((Below.refl _ _).alloc (Nat.le_refl _) (.cells (snB s2 (.slice X1 s2.rn.cs.length f1) (.slice X2 s2.pe.length f2) (.slice X3 s2.fl.length f3) (.slice X4 s2.ac.length f4)) 29)))
  have HW2 := LH ((HW.out.next hb).alloc (.cells (snB s2 (.slice X1 s2.rn.cs.length f1) (.slice X2 s2.pe.length f2) (.slice X3 s2.fl.length f3) (.slice X4 s2.ac.length f4)) 29))
  have HB2 := LH ((HB.out.next hb).next ((Below.refl _ _).alloc (Nat.le_refl _) (.cells (snB s2 (.slice X1 s2.rn.cs.length f1) (.slice X2 s2.pe.length f2) (.slice X3 s2.fl.length f3) (.slice X4 s2.ac.length f4)) 29)))
  have HN := LH (show (w3.alloc (.cells (snB s2 (.slice X1 s2.rn.cs.length f1) (.slice X2 s2.pe.length f2) (.slice X3 s2.fl.length f3) (.slice X4 s2.ac.length f4)) 29)).heap[w3.heap.size]? = some (.cells (snB s2 (.slice X1 s2.rn.cs.length f1) (.slice X2 s2.pe.length f2) (.slice X3 s2.fl.length f3) (.slice X4 s2.ac.length f4)) 29 (0, 0)) from heap_alloc_new w3 _)
  clear ho hb HB HA HW a0 a1 a2 a3 a4 a5 a6 a7 a8 a9 a10 a11 q0 q1 q2
  go_upto_region 19 with fail
  generalize w3.alloc (.cells (snB s2 (.slice X1 s2.rn.cs.length f1) (.slice X2 s2.pe.length f2) (.slice X3 s2.fl.length f3) (.slice X4 s2.ac.length f4)) 29) = w4 at *
  generalize w3.heap.size = gn at *
  have HNC := LH (sn_cells HN.out)
  obtain ⟨n0, n1, n2, n3, n4, n5, n6, n7, n8, n9, n10, n11⟩ := HNC.out
  obtain ⟨a0, a1, a2, a3, a4, a5, a6, a7, a8, a9, a10, a11⟩ := HW2.out.cells
  have pf := HW2.out.free
  go_upto_region 22 with fail
  have HW3 := LH (HW2.out.putS HLo.out HOX.out)
  have HB3 := LH (HB2.out.grown (putS_grown w4 gs s2 (.slice X1 s2.rn.cs.length f1) (.slice X2 s2.pe.length f2) (.slice X3 s2.fl.length f3) (.slice X4 s2.ac.length f4)) (fun e => by have := HG.out.1; injection e; omega))
  clear n0 n1 n2 n3 n4 n5 n6 n7 n8 n9 n10 n11 a0 a1 a2 a3 a4 a5 a6 a7 a8 a9 a10 a11 pf HW2 HB2 HOX HN HLo HNC
  dsimp only [putS] at HW3 HB3
  generalize ((((((((((((w4.setCell ⟨gs, 0, none⟩ (.int .i64 s2.st)).setCell ⟨gs, 1, none⟩ (.int .i64 s2.rn.size)).setCell ⟨gs, 2, none⟩ (.int .i64 s2.rn.base)).setCell ⟨gs, 3, none⟩ (.int .i64 s2.rn.en)).setCell ⟨gs, 4, none⟩ (.slice X1 s2.rn.cs.length f1)).setCell ⟨gs, 5, none⟩ (.slice X2 s2.pe.length f2)).setCell ⟨gs, 6, none⟩ (.slice X3 s2.fl.length f3)).setCell ⟨gs, 7, none⟩ (.slice X4 s2.ac.length f4)).setCell ⟨gs, 8, none⟩ (.int .i64 s2.fin)).setCell ⟨gs, 9, none⟩ (.int .i64 s2.fi)).setCell ⟨gs, 10, none⟩ (.int .i64 s2.sent)).setCell ⟨gs, 11, none⟩ (.int .i64 s2.code)) = w5 at *
  obtain ⟨q0, q1, q2⟩ := HB3.out.cells
  have HW4 := LH (HW3.out.alloc (.cells #[.int .i64 p.off, .string p.data, .bool p.fin] 44))
  have HPO := LH (pcs_one w5 p 44)
  clear HW3 HB3
  go_wp2_with (first | (refine wpList_append_pc2 _ rfl _ _ rfl w.heap.size _ ps rfl HW4.out.op w5.heap.size 0 1 1 _ [p] rfl rfl HPO.out HL6.out HW4.out.b.size ?_; intro v' w' hown hgr hk))
  exact HQ.out _ _ _ _ _ _ _ _ _ _ _ _ _ _ _ _ _ ⟨s2, _, _, _, _, g, _, _, HSM.out, HLN.out, HW4.out.app hown hgr hk, HI2.out⟩
end Go.Proofs.YtdaoaedkjoknmaaGreat
