/-
  What impl.recvStateOf and the states' names return; which methods the states have.
-/
import Derived.Test.YtmmoedhfeaokgaaRcV
namespace Go.Proofs.Ytmmoedhfeaokgaa
open Go.RowKit Go.Deep Go.Proofs.Ytmmoedhfeaokgaa.Num

/-- The state that a number stands for, as a value. -/
def stV (s : Int) : Value :=
  if s = 0 then .iface 90 (.agg #[]) else if s = 1 then .iface 91 (.agg #[]) else if s = 2 then .iface 94 (.agg #[]) else if s = 3 then .iface 74 (.agg #[]) else if s = 4 then .iface 95 (.agg #[]) else if s = 5 then .iface 75 (.agg #[]) else .nilIface
theorem stV0 {s : Int} (h : s = 0) : stV s = .iface 90 (.agg #[]) := by subst h; rfl
theorem stV1 {s : Int} (h : s = 1) : stV s = .iface 91 (.agg #[]) := by subst h; rfl
theorem stV2 {s : Int} (h : s = 2) : stV s = .iface 94 (.agg #[]) := by subst h; rfl
theorem stV3 {s : Int} (h : s = 3) : stV s = .iface 74 (.agg #[]) := by subst h; rfl
theorem stV4 {s : Int} (h : s = 4) : stV s = .iface 95 (.agg #[]) := by subst h; rfl
theorem stV5 {s : Int} (h : s = 5) : stV s = .iface 75 (.agg #[]) := by subst h; rfl
theorem stVn {s : Int} (h : ¬ (0 ≤ s ∧ s ≤ 5)) : stV s = .nilIface := by
  unfold stV
  rw [if_neg (by omega)]
  rw [if_neg (by omega)]
  rw [if_neg (by omega)]
  rw [if_neg (by omega)]
  rw [if_neg (by omega)]
  rw [if_neg (by omega)]
set_option maxRecDepth 100000 in
/-- impl.recvStateOf -/
theorem istate (s : Int) (w : World) :
    Calls Try.prog 53 #[.int .i64 s] w fun e w' => e = .returned (.tuple #[stV s, .bool (decide (0 ≤ s ∧ s ≤ 5))]) ∧ w' = w := by
  by_cases h0 : s = 0
  · rw [stV0 h0, decide_eq_true (show 0 ≤ s ∧ s ≤ 5 by omega)]
    have d0 : (s == 0) = true := by simpa using h0
    clear h0
    go_enter Try.func53, Try.ntmps53
    go_wp2
    go_ret2
    exact ⟨rfl, rfl⟩
  have d0 : (s == 0) = false := by simpa using h0
  by_cases h1 : s = 1
  · rw [stV1 h1, decide_eq_true (show 0 ≤ s ∧ s ≤ 5 by omega)]
    have d1 : (s == 1) = true := by simpa using h1
    clear h0 h1
    go_enter Try.func53, Try.ntmps53
    go_wp2
    go_ret2
    exact ⟨rfl, rfl⟩
  have d1 : (s == 1) = false := by simpa using h1
  by_cases h2 : s = 2
  · rw [stV2 h2, decide_eq_true (show 0 ≤ s ∧ s ≤ 5 by omega)]
    have d2 : (s == 2) = true := by simpa using h2
    clear h0 h1 h2
    go_enter Try.func53, Try.ntmps53
    go_wp2
    go_ret2
    exact ⟨rfl, rfl⟩
  have d2 : (s == 2) = false := by simpa using h2
  by_cases h3 : s = 3
  · rw [stV3 h3, decide_eq_true (show 0 ≤ s ∧ s ≤ 5 by omega)]
    have d3 : (s == 3) = true := by simpa using h3
    clear h0 h1 h2 h3
    go_enter Try.func53, Try.ntmps53
    go_wp2
    go_ret2
    exact ⟨rfl, rfl⟩
  have d3 : (s == 3) = false := by simpa using h3
  by_cases h4 : s = 4
  · rw [stV4 h4, decide_eq_true (show 0 ≤ s ∧ s ≤ 5 by omega)]
    have d4 : (s == 4) = true := by simpa using h4
    clear h0 h1 h2 h3 h4
    go_enter Try.func53, Try.ntmps53
    go_wp2
    go_ret2
    exact ⟨rfl, rfl⟩
  have d4 : (s == 4) = false := by simpa using h4
  by_cases h5 : s = 5
  · rw [stV5 h5, decide_eq_true (show 0 ≤ s ∧ s ≤ 5 by omega)]
    have d5 : (s == 5) = true := by simpa using h5
    clear h0 h1 h2 h3 h4 h5
    go_enter Try.func53, Try.ntmps53
    go_wp2
    go_ret2
    exact ⟨rfl, rfl⟩
  have d5 : (s == 5) = false := by simpa using h5
  rw [stVn (by omega), decide_eq_false (show ¬ (0 ≤ s ∧ s ≤ 5) by omega)]
  clear h0 h1 h2 h3 h4 h5
  go_enter Try.func53, Try.ntmps53
  go_wp2
  go_ret2
  exact ⟨rfl, rfl⟩
/-- openRecv's name -/
theorem iname0 (w : World) : Calls Try.prog 127 #[.agg #[]] w fun e w' => e = .returned (.string ⟨#[111, 112, 101, 110]⟩) ∧ Below w.heap.size w w' := by
  have HB := Lib.hid ((Below.refl w.heap.size w).alloc (Nat.le_refl _) (.cells #[] 90))
  go_enter Try.func127, Try.ntmps127
  go_wp2
  go_ret
  exact ⟨rfl, HB.out⟩
/-- sizedRecv's name -/
theorem iname1 (w : World) : Calls Try.prog 129 #[.agg #[]] w fun e w' => e = .returned (.string ⟨#[115, 105, 122, 101, 100]⟩) ∧ Below w.heap.size w w' := by
  have HB := Lib.hid ((Below.refl w.heap.size w).alloc (Nat.le_refl _) (.cells #[] 91))
  go_enter Try.func129, Try.ntmps129
  go_wp2
  go_ret
  exact ⟨rfl, HB.out⟩
/-- allRecv's name -/
theorem iname2 (w : World) : Calls Try.prog 130 #[.agg #[]] w fun e w' => e = .returned (.string ⟨#[97, 108, 108]⟩) ∧ Below w.heap.size w w' := by
  have HB := Lib.hid ((Below.refl w.heap.size w).alloc (Nat.le_refl _) (.cells #[] 94))
  go_enter Try.func130, Try.ntmps130
  go_wp2
  go_ret
  exact ⟨rfl, HB.out⟩
/-- readRecv's name -/
theorem iname3 (w : World) : Calls Try.prog 121 #[.agg #[]] w fun e w' => e = .returned (.string ⟨#[114, 101, 97, 100]⟩) ∧ Below w.heap.size w w' := by
  have HB := Lib.hid ((Below.refl w.heap.size w).alloc (Nat.le_refl _) (.cells #[] 74))
  go_enter Try.func121, Try.ntmps121
  go_wp2
  go_ret
  exact ⟨rfl, HB.out⟩
/-- resetRecv's name -/
theorem iname4 (w : World) : Calls Try.prog 131 #[.agg #[]] w fun e w' => e = .returned (.string ⟨#[114, 101, 115, 101, 116]⟩) ∧ Below w.heap.size w w' := by
  have HB := Lib.hid ((Below.refl w.heap.size w).alloc (Nat.le_refl _) (.cells #[] 95))
  go_enter Try.func131, Try.ntmps131
  go_wp2
  go_ret
  exact ⟨rfl, HB.out⟩
/-- resetReadRecv's name -/
theorem iname5 (w : World) : Calls Try.prog 124 #[.agg #[]] w fun e w' => e = .returned (.string ⟨#[114, 101, 115, 101, 116, 114, 101, 97, 100]⟩) ∧ Below w.heap.size w w' := by
  have HB := Lib.hid ((Below.refl w.heap.size w).alloc (Nat.le_refl _) (.cells #[] 75))
  go_enter Try.func124, Try.ntmps124
  go_wp2
  go_ret
  exact ⟨rfl, HB.out⟩
theorem mname0 (n : Nat) (w : World) : (method (n + 1) 90 (.agg #[]) "loop.example/g01633/impl.name").run Try.prog w = .ok (127, .agg #[]) w := by kernel_rfl
theorem magrees0 (n : Nat) (w : World) : (method (n + 1) 90 (.agg #[]) "loop.example/g01633/impl.agrees").run Try.prog w = .ok (126, .agg #[]) w := by kernel_rfl
theorem mname1 (n : Nat) (w : World) : (method (n + 1) 91 (.agg #[]) "loop.example/g01633/impl.name").run Try.prog w = .ok (129, .agg #[]) w := by kernel_rfl
theorem magrees1 (n : Nat) (w : World) : (method (n + 1) 91 (.agg #[]) "loop.example/g01633/impl.agrees").run Try.prog w = .ok (128, .agg #[]) w := by kernel_rfl
theorem mname2 (n : Nat) (w : World) : (method (n + 1) 94 (.agg #[]) "loop.example/g01633/impl.name").run Try.prog w = .ok (130, .agg #[]) w := by kernel_rfl
theorem magrees2 (n : Nat) (w : World) : (method (n + 1) 94 (.agg #[]) "loop.example/g01633/impl.agrees").run Try.prog w = .ok (122, .agg #[]) w := by kernel_rfl
theorem mname3 (n : Nat) (w : World) : (method (n + 1) 74 (.agg #[]) "loop.example/g01633/impl.name").run Try.prog w = .ok (121, .agg #[]) w := by kernel_rfl
theorem magrees3 (n : Nat) (w : World) : (method (n + 1) 74 (.agg #[]) "loop.example/g01633/impl.agrees").run Try.prog w = .ok (120, .agg #[]) w := by kernel_rfl
theorem mname4 (n : Nat) (w : World) : (method (n + 1) 95 (.agg #[]) "loop.example/g01633/impl.name").run Try.prog w = .ok (131, .agg #[]) w := by kernel_rfl
theorem magrees4 (n : Nat) (w : World) : (method (n + 1) 95 (.agg #[]) "loop.example/g01633/impl.agrees").run Try.prog w = .ok (125, .agg #[]) w := by kernel_rfl
theorem mname5 (n : Nat) (w : World) : (method (n + 1) 75 (.agg #[]) "loop.example/g01633/impl.name").run Try.prog w = .ok (124, .agg #[]) w := by kernel_rfl
theorem magrees5 (n : Nat) (w : World) : (method (n + 1) 75 (.agg #[]) "loop.example/g01633/impl.agrees").run Try.prog w = .ok (123, .agg #[]) w := by kernel_rfl
theorem as0_0 (w : World) : (Instr.typeAssert (.iface 90 (.agg #[])) 67 90 true).run Try.prog w = .ok (.tuple #[.agg #[], .bool true]) w := by kernel_rfl
theorem as0_1 (w : World) : (Instr.typeAssert (.iface 90 (.agg #[])) 67 91 true).run Try.prog w = .ok (.tuple #[.agg #[], .bool false]) w := by kernel_rfl
theorem as0_2 (w : World) : (Instr.typeAssert (.iface 90 (.agg #[])) 67 94 true).run Try.prog w = .ok (.tuple #[.agg #[], .bool false]) w := by kernel_rfl
theorem as0_3 (w : World) : (Instr.typeAssert (.iface 90 (.agg #[])) 67 74 true).run Try.prog w = .ok (.tuple #[.agg #[], .bool false]) w := by kernel_rfl
theorem as0_4 (w : World) : (Instr.typeAssert (.iface 90 (.agg #[])) 67 95 true).run Try.prog w = .ok (.tuple #[.agg #[], .bool false]) w := by kernel_rfl
theorem as0_5 (w : World) : (Instr.typeAssert (.iface 90 (.agg #[])) 67 75 true).run Try.prog w = .ok (.tuple #[.agg #[], .bool false]) w := by kernel_rfl
theorem as1_0 (w : World) : (Instr.typeAssert (.iface 91 (.agg #[])) 67 90 true).run Try.prog w = .ok (.tuple #[.agg #[], .bool false]) w := by kernel_rfl
theorem as1_1 (w : World) : (Instr.typeAssert (.iface 91 (.agg #[])) 67 91 true).run Try.prog w = .ok (.tuple #[.agg #[], .bool true]) w := by kernel_rfl
theorem as1_2 (w : World) : (Instr.typeAssert (.iface 91 (.agg #[])) 67 94 true).run Try.prog w = .ok (.tuple #[.agg #[], .bool false]) w := by kernel_rfl
theorem as1_3 (w : World) : (Instr.typeAssert (.iface 91 (.agg #[])) 67 74 true).run Try.prog w = .ok (.tuple #[.agg #[], .bool false]) w := by kernel_rfl
theorem as1_4 (w : World) : (Instr.typeAssert (.iface 91 (.agg #[])) 67 95 true).run Try.prog w = .ok (.tuple #[.agg #[], .bool false]) w := by kernel_rfl
theorem as1_5 (w : World) : (Instr.typeAssert (.iface 91 (.agg #[])) 67 75 true).run Try.prog w = .ok (.tuple #[.agg #[], .bool false]) w := by kernel_rfl
theorem as2_0 (w : World) : (Instr.typeAssert (.iface 94 (.agg #[])) 67 90 true).run Try.prog w = .ok (.tuple #[.agg #[], .bool false]) w := by kernel_rfl
theorem as2_1 (w : World) : (Instr.typeAssert (.iface 94 (.agg #[])) 67 91 true).run Try.prog w = .ok (.tuple #[.agg #[], .bool false]) w := by kernel_rfl
theorem as2_2 (w : World) : (Instr.typeAssert (.iface 94 (.agg #[])) 67 94 true).run Try.prog w = .ok (.tuple #[.agg #[], .bool true]) w := by kernel_rfl
theorem as2_3 (w : World) : (Instr.typeAssert (.iface 94 (.agg #[])) 67 74 true).run Try.prog w = .ok (.tuple #[.agg #[], .bool false]) w := by kernel_rfl
theorem as2_4 (w : World) : (Instr.typeAssert (.iface 94 (.agg #[])) 67 95 true).run Try.prog w = .ok (.tuple #[.agg #[], .bool false]) w := by kernel_rfl
theorem as2_5 (w : World) : (Instr.typeAssert (.iface 94 (.agg #[])) 67 75 true).run Try.prog w = .ok (.tuple #[.agg #[], .bool false]) w := by kernel_rfl
theorem as3_0 (w : World) : (Instr.typeAssert (.iface 74 (.agg #[])) 67 90 true).run Try.prog w = .ok (.tuple #[.agg #[], .bool false]) w := by kernel_rfl
theorem as3_1 (w : World) : (Instr.typeAssert (.iface 74 (.agg #[])) 67 91 true).run Try.prog w = .ok (.tuple #[.agg #[], .bool false]) w := by kernel_rfl
theorem as3_2 (w : World) : (Instr.typeAssert (.iface 74 (.agg #[])) 67 94 true).run Try.prog w = .ok (.tuple #[.agg #[], .bool false]) w := by kernel_rfl
theorem as3_3 (w : World) : (Instr.typeAssert (.iface 74 (.agg #[])) 67 74 true).run Try.prog w = .ok (.tuple #[.agg #[], .bool true]) w := by kernel_rfl
theorem as3_4 (w : World) : (Instr.typeAssert (.iface 74 (.agg #[])) 67 95 true).run Try.prog w = .ok (.tuple #[.agg #[], .bool false]) w := by kernel_rfl
theorem as3_5 (w : World) : (Instr.typeAssert (.iface 74 (.agg #[])) 67 75 true).run Try.prog w = .ok (.tuple #[.agg #[], .bool false]) w := by kernel_rfl
theorem as4_0 (w : World) : (Instr.typeAssert (.iface 95 (.agg #[])) 67 90 true).run Try.prog w = .ok (.tuple #[.agg #[], .bool false]) w := by kernel_rfl
theorem as4_1 (w : World) : (Instr.typeAssert (.iface 95 (.agg #[])) 67 91 true).run Try.prog w = .ok (.tuple #[.agg #[], .bool false]) w := by kernel_rfl
theorem as4_2 (w : World) : (Instr.typeAssert (.iface 95 (.agg #[])) 67 94 true).run Try.prog w = .ok (.tuple #[.agg #[], .bool false]) w := by kernel_rfl
theorem as4_3 (w : World) : (Instr.typeAssert (.iface 95 (.agg #[])) 67 74 true).run Try.prog w = .ok (.tuple #[.agg #[], .bool false]) w := by kernel_rfl
theorem as4_4 (w : World) : (Instr.typeAssert (.iface 95 (.agg #[])) 67 95 true).run Try.prog w = .ok (.tuple #[.agg #[], .bool true]) w := by kernel_rfl
theorem as4_5 (w : World) : (Instr.typeAssert (.iface 95 (.agg #[])) 67 75 true).run Try.prog w = .ok (.tuple #[.agg #[], .bool false]) w := by kernel_rfl
theorem as5_0 (w : World) : (Instr.typeAssert (.iface 75 (.agg #[])) 67 90 true).run Try.prog w = .ok (.tuple #[.agg #[], .bool false]) w := by kernel_rfl
theorem as5_1 (w : World) : (Instr.typeAssert (.iface 75 (.agg #[])) 67 91 true).run Try.prog w = .ok (.tuple #[.agg #[], .bool false]) w := by kernel_rfl
theorem as5_2 (w : World) : (Instr.typeAssert (.iface 75 (.agg #[])) 67 94 true).run Try.prog w = .ok (.tuple #[.agg #[], .bool false]) w := by kernel_rfl
theorem as5_3 (w : World) : (Instr.typeAssert (.iface 75 (.agg #[])) 67 74 true).run Try.prog w = .ok (.tuple #[.agg #[], .bool false]) w := by kernel_rfl
theorem as5_4 (w : World) : (Instr.typeAssert (.iface 75 (.agg #[])) 67 95 true).run Try.prog w = .ok (.tuple #[.agg #[], .bool false]) w := by kernel_rfl
theorem as5_5 (w : World) : (Instr.typeAssert (.iface 75 (.agg #[])) 67 75 true).run Try.prog w = .ok (.tuple #[.agg #[], .bool true]) w := by kernel_rfl
theorem as6_0 (w : World) : (Instr.typeAssert .nilIface 67 90 true).run Try.prog w = .ok (.tuple #[.agg #[], .bool false]) w := by kernel_rfl
theorem as6_1 (w : World) : (Instr.typeAssert .nilIface 67 91 true).run Try.prog w = .ok (.tuple #[.agg #[], .bool false]) w := by kernel_rfl
theorem as6_2 (w : World) : (Instr.typeAssert .nilIface 67 94 true).run Try.prog w = .ok (.tuple #[.agg #[], .bool false]) w := by kernel_rfl
theorem as6_3 (w : World) : (Instr.typeAssert .nilIface 67 74 true).run Try.prog w = .ok (.tuple #[.agg #[], .bool false]) w := by kernel_rfl
theorem as6_4 (w : World) : (Instr.typeAssert .nilIface 67 95 true).run Try.prog w = .ok (.tuple #[.agg #[], .bool false]) w := by kernel_rfl
theorem as6_5 (w : World) : (Instr.typeAssert .nilIface 67 75 true).run Try.prog w = .ok (.tuple #[.agg #[], .bool false]) w := by kernel_rfl
end Go.Proofs.Ytmmoedhfeaokgaa
