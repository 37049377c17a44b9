/-
  CountTop: the whole.
-/
import Derived.Test.YtonbkpfnpnlkpaaDoorTq
import Derived.Test.YtonbkpfnpnlkpaaDoorTr
namespace Go.Proofs.YtonbkpfnpnlkpaaDoor
open Go.RowKit
set_option linter.unusedVariables false

theorem top_7 (n : Int) (f : Nat) (v : Value) (l : List Nat) (w : World) (hW : Wo w) (hn : -9223372036854775808 ≤ n ∧ n ≤ 9223372036854775807) (hf : f ≤ 18446744073709551615) (hv : Us w v l) :
    Calls Tryd.prog 7 #[.int .i64 n, .int .u64 (f : Nat), v] w fun e w' => e = .returned (.bool true) ∧ w.grownBy w' none := by
  by_cases h : n < 0
  · exact top_7n n f v l w hW hn hf hv h
  · exact top_7p n f v l w hW hn hf hv h
end Go.Proofs.YtonbkpfnpnlkpaaDoor
