import Derived.Test.YtoomnhclaofgaaaGreatIp
/-
  big, equal, right.
-/
namespace Go.Proofs.YtoomnhclaofgaaaGreat
open Go.RowKit
set_option linter.unusedVariables false

set_option maxRecDepth 100000 in
set_option maxHeartbeats 1000000 in
theorem equal_57 {w : World} (ka va kb vb : Option Addr) (kn kc kc' vn vc vc' : Nat) (fl ex to tk st mk : Int) (key val : List Int) (h1 : Has w ka kn key) (h2 : Has w va vn val) (h3 : Has w kb kn key) (h4 : Has w vb vn val) (hk : isBytes key) (hv : isBytes val) :
    Calls Tryz.prog 20 #[itV ka kn kc va vn vc fl ex to tk st mk, itV kb kn kc' vb vn vc' fl ex to tk st mk] w fun y w' => y = .returned (.bool true) ∧ w.grownBy w' none := by
  have hal : w.grownBy ((w.alloc (.cells #[.slice ka kn kc, .slice va vn vc, .int .u64 fl, .int .i64 ex, .int .i64 to, .int .u64 tk, .int .i64 st, .int .i64 mk] 40)).alloc (.cells #[.slice kb kn kc', .slice vb vn vc', .int .u64 fl, .int .i64 ex, .int .i64 to, .int .u64 tk, .int .i64 st, .int .i64 mk] 40)) none := gb_alloc (gb_alloc (gb_refl _ _) _) _
  have e1 := equal_67 (h1.kept0 hal) (h3.kept0 hal) hk hk kc kc'
  have e2 := equal_67 (h2.kept0 hal) (h4.kept0 hal) hv hv vc vc'
  rw [decide_eq_true rfl] at e1 e2
  clear h1 h2 h3 h4
  unfold itV
  go_enter Tryz.func20, Tryz.ntmps20
  go_wp2_with (first | (go_at_call 24; with_reducible refine e1.mono ?_; rintro y w' ⟨rfl, rfl⟩) | (go_at_call 24; with_reducible refine e2.mono ?_; rintro y w' ⟨rfl, rfl⟩) | fail)
  go_ret
  exact ⟨rfl, hal⟩

end Go.Proofs.YtoomnhclaofgaaaGreat
