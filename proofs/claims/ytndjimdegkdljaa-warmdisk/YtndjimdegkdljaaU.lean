import Derived.Test.YtndjimdegkdljaaMa
import Derived.LaidEql
import Derived.Stop.Asserts
import Derived.RowKitTokens
import Derived.Great.Walk
/-
  errors.Is of what the disk refuses.
-/
namespace Go.Proofs.Ytndjimdegkdljaa
open Go.RowKit Go.Extern.Stop Go.Stop Go.Extern
set_option linter.unusedVariables false
set_option linter.unusedSimpArgs false
attribute [local go_sem] Oper.semAt_some

theorem isTypeOf (v : Value) (w : World) : (Extern.ReflectliteType.typeOf #[.iface 54 v]).run Try.prog w = .ok (.iface 142 (.agg #[.pointer (some ⟨0, 54, none⟩)])) w := by kernel_rfl
theorem isMethodComparable (v : Value) (w : World) : (Go.method 309 142 v "Comparable").run Try.prog w = .ok (126, v) w := by kernel_rfl
theorem call126 (w : World) : (callFunc 126 #[.agg #[.pointer (some ⟨0, 54, none⟩)]]).run Try.prog w = .ok (Next.value (.bool true)) w := by kernel_rfl
theorem call59 (v : Value) (w : World) : (callFunc 59 #[.iface 54 v]).run Try.prog w = .ok (Next.value (.iface 142 (.agg #[.pointer (some ⟨0, 54, none⟩)]))) w := by kernel_rfl
theorem methodUnwrap (v : Value) (w : World) : (Go.method 309 55 v "Unwrap").run Try.prog w = .ok (20, v) w := by kernel_rfl
theorem noIsE (v : Value) (xT : TypeId) (w : World) : (Instr.typeAssert (.iface 54 v) xT 144 true).run Try.prog w = .ok (.tuple #[.nilIface, .bool false]) w := run_typeAssert_lacksB Try.underlying144 (by kernel_rfl) (by kernel_rfl) v xT w
theorem noUnwrapE (v : Value) (xT : TypeId) (w : World) : (Instr.typeAssert (.iface 54 v) xT 147 true).run Try.prog w = .ok (.tuple #[.nilIface, .bool false]) w := run_typeAssert_lacksB Try.underlying147 (by kernel_rfl) (by kernel_rfl) v xT w
theorem noUnwrapsE (v : Value) (xT : TypeId) (w : World) : (Instr.typeAssert (.iface 54 v) xT 148 true).run Try.prog w = .ok (.tuple #[.nilIface, .bool false]) w := run_typeAssert_lacksB Try.underlying148 (by kernel_rfl) (by kernel_rfl) v xT w
theorem noIsW (v : Value) (xT : TypeId) (w : World) : (Instr.typeAssert (.iface 55 v) xT 144 true).run Try.prog w = .ok (.tuple #[.nilIface, .bool false]) w := run_typeAssert_lacksB Try.underlying144 (by kernel_rfl) (by kernel_rfl) v xT w
theorem hasUnwrapW (v : Value) (xT : TypeId) (w : World) : (Instr.typeAssert (.iface 55 v) xT 147 true).run Try.prog w = .ok (.tuple #[.iface 55 v, .bool true]) w := run_typeAssert_hasB Try.underlying147 (by kernel_rfl) v xT w
theorem run_eql_errno (w : World) (a b : Int) : (binOp .eql 30 (.iface 54 (.int .i64 a)) (.iface 54 (.int .i64 b))).run Try.prog w = .ok (.bool (decide (a = b))) w := by
  obtain ⟨i, hi, hcmp⟩ := Option.map_eq_some_iff.1 (show (Try.prog.info? 54).map (·.comparable) = some true by kernel_rfl)
  have h : ∀ d : Nat, (Op.equalIn (d + 2) 30 (.iface 54 (.int .i64 a)) (.iface 54 (.int .i64 b))).run Try.prog w = .ok (decide (a = b)) w := fun d => by
    simp [Op.equalIn, run_underlying Try.underlying30, run_underlying Try.underlying54, typeInfo, hi, hcmp]
    try rfl
  simp only [binOp]
  simp [Op.equal, Op.maxDepth, h 9998]
theorem is_nil (n : Int) (w : World) : Calls Try.prog 19 #[.nilIface, .iface 54 (.int .i64 n)] w fun e w' => e = .returned (.bool false) ∧ w' = w := by
  have hn := run_eql_iface_nil_left (P := Try.prog) w 54 (.int .i64 n) Try.underlying30
  go_enter Try.func19, Try.ntmps19
  go_wp2
  go_ret
  exact ⟨rfl, rfl⟩
set_option maxRecDepth 100000 in
set_option maxHeartbeats 4000000 in
theorem is_60 {w : World} {g : Nat} {call name : Bs} {why : Int} (hb : Box w 57 g #[sv call, sv name, .iface 54 (.int .i64 why)]) (n : Int) :
    Calls Try.prog 60 #[.iface 55 (pv g), .iface 54 (.int .i64 n), .bool true] w fun e w' => e = .returned (.bool (decide (why = n))) ∧ w' = w := by
  have mU := methodUnwrap
  have nE := noIsE
  have uE := noUnwrapE
  have vE := noUnwrapsE
  have nW := noIsW
  have uW := hasUnwrapW
  have heq := run_eql_errno w why n
  have hty := run_eql_iface_types (P := Try.prog) 55 54 (pv g) (.int .i64 n) Try.underlying30 (by decide) w
  have h20 := unwrap_20 hb
  clear hb
  by_cases hwn : why = n
  · subst hwn
    simp only [decide_true] at heq ⊢
    go_enter Try.func60, Try.ntmps60
    go_wp2
    refine wp_loop_rounds 2 ?_
    rw [rounds_succ]
    go_wp2_with (go_at_call 20; go_must (refine h20.mono ?_); rintro e w1 ⟨rfl, hw1⟩; have hw2 := hw1.symm; subst hw2)
    rw [rounds_succ]
    go_wp2
    go_ret
    exact ⟨rfl, rfl⟩
  · have hd : decide (why = n) = false := decide_eq_false hwn
    rw [hd] at heq ⊢
    go_enter Try.func60, Try.ntmps60
    go_wp2
    refine wp_loop_rounds 2 ?_
    rw [rounds_succ]
    go_wp2_with (go_at_call 20; go_must (refine h20.mono ?_); rintro e w1 ⟨rfl, hw1⟩; have hw2 := hw1.symm; subst hw2)
    rw [rounds_succ]
    go_wp2
    go_ret
    exact ⟨rfl, rfl⟩
set_option maxRecDepth 100000 in
set_option maxHeartbeats 4000000 in
theorem is_fault {w : World} {g : Nat} {call name : Bs} {why : Int} (hb : Box w 57 g #[sv call, sv name, .iface 54 (.int .i64 why)]) (n : Int) :
    Calls Try.prog 19 #[.iface 55 (pv g), .iface 54 (.int .i64 n)] w fun e w' => e = .returned (.bool (decide (why = n))) ∧ w' = w := by
  have h59 := call59
  have h126 := call126
  have mC := isMethodComparable
  have h60 := is_60 hb n
  clear hb
  generalize decide (why = n) = b at *
  go_enter Try.func19, Try.ntmps19
  go_wp2_with (go_at_call 60; go_must (refine h60.mono ?_); rintro e w1 ⟨rfl, hw1⟩; have hw2 := hw1.symm; subst hw2)
  go_ret
  exact ⟨rfl, rfl⟩
theorem is_err {w : World} {v : Value} {call name : Bs} {why : Int} (h : ErrV w v call name why) (n : Int) (hn : n ≠ 0) :
    Calls Try.prog 19 #[v, .iface 54 (.int .i64 n)] w fun e w' => e = .returned (.bool (decide (why = n))) ∧ w' = w := by
  rcases h with ⟨rfl, rfl⟩ | ⟨h1, g, rfl, hb⟩
  · rw [decide_eq_false (fun e => hn e.symm)]
    exact is_nil n w
  · exact is_fault hb n
end Go.Proofs.Ytndjimdegkdljaa
