import Derived.Test.YtohneboimmcocaaGreatHe
import Derived.Test.YtohneboimmcocaaGreatHf
/-
  LruSpares' walk.
-/
namespace Go.Proofs.YtohneboimmcocaaGreat
open Go.RowKit

theorem lruSpares_any (x0 x1 cc ow lo : Int) {w : World} {a da : Option Addr} {n c nd dc : Nat} (hO : OpsIn w a n) (hn : n ≤ maxLen) (hnd : nd ≤ maxLen) {Df : Nat → Bool} (hD : ∀ i, i < nd → ∃ b o, da = some ⟨b, o, none⟩ ∧ w.cell? ⟨b, o + i, none⟩ = some (.bool (Df i))) :
    Calls Tryz.prog 9 #[.agg #[.int .i64 x0, .int .i64 x1, .slice a n c, .int .i64 cc, .int .i64 ow, .int .i64 lo, .slice da nd dc]] w fun y w' => y = .returned (.bool true) ∧ w.grownBy w' none := by
  by_cases h : ow < 0
  · exact lruSpares_neg x0 x1 cc ow lo h hO hn hnd hD
  · exact lruSpares_nn x0 x1 cc ow lo (by omega) hO hn hnd hD
end Go.Proofs.YtohneboimmcocaaGreat
