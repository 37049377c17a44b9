/-
  A Fault that a caller makes: a bare one's words, one whose number is 0.
-/
import Derived.Test.YtndjimdegkdljaaV
namespace Go.Proofs.Ytndjimdegkdljaa
open Go.RowKit
set_option linter.unusedVariables false
set_option linter.unusedSimpArgs false
attribute [local go_sem] Oper.semAt_some

set_option maxRecDepth 100000 in
set_option maxHeartbeats 4000000 in
theorem error_bare {w : World} {g : Nat} {call : Bs} (hb : Box w 57 g #[sv call, sv [], .nilIface]) (hc : call.length ≤ 1000) :
    Calls Try.prog 21 #[pv g] w fun e w' => e = .returned (sv (call ++ [58, 32])) ∧ w' = w := by
  have c0 : w.cell? ⟨g, 0, none⟩ = some (sv call) := hb.cell 0
  have c1 : w.cell? ⟨g, 1, none⟩ = some (sv []) := hb.cell 1
  have c2 : w.cell? ⟨g, 2, none⟩ = some .nilIface := hb.cell 2
  clear hb
  go_enter Try.func21, Try.ntmps21
  go_wp2
  go_ret
  refine ⟨?_, rfl⟩
  have e : (ByteArray.mk call.toArray) ++ (ByteArray.mk #[58, 32]) = ByteArray.mk (call ++ [58, 32]).toArray := by
    rw [show ByteArray.mk #[58, 32] = ByteArray.mk ([58, 32] : Bs).toArray from rfl, bs_app]
  show Ending.returned (Value.string _) = Ending.returned (Value.string _)
  rw [← e]
set_option maxRecDepth 100000 in
set_option maxHeartbeats 4000000 in
theorem refusal_zero {w : World} {g : Nat} {call name : Bs} (hb : Box w 57 g #[sv call, sv name, .iface 54 (.int .i64 0)]) :
    Calls Try.prog 25 #[.iface 55 (pv g)] w fun e w' => e = .returned (.tuple #[.agg #[sv call, sv name, .int .i64 0], .bool false]) ∧ w.grownBy w' none := by
  have a55 := as55
  have a54 := as54
  have hlt := hb.lt
  have c0 : w.cell? ⟨g, 0, none⟩ = some (sv call) := hb.cell 0
  have c1 : w.cell? ⟨g, 1, none⟩ = some (sv name) := hb.cell 1
  have c2 : w.cell? ⟨g, 2, none⟩ = some (.iface 54 (.int .i64 0)) := hb.cell 2
  have k0 := gb_cellN (World.grownBy_alloc w (.cells #[sv [], sv [], .int .i64 0] 34) none) c0
  have k1 := gb_cellN (World.grownBy_alloc w (.cells #[sv [], sv [], .int .i64 0] 34) none) c1
  have k2 := gb_cellN (World.grownBy_alloc w (.cells #[sv [], sv [], .int .i64 0] 34) none) c2
  have hn : ¬ g = w.heap.size := by omega
  go_enter Try.func25, Try.ntmps25
  go_upto_region 9 with fail
  go_region
  all_goals
    go_wp2
    refine bodyPost_ret (v := .tuple #[.agg #[sv call, sv name, .int .i64 0], .bool false]) (by simp [results, Try.results25, go_sem, bne]) rfl ⟨rfl, ?_⟩
    first
      | exact gb_drew (gb_alloc (gb_refl _ _) _)
      | exact gb_alloc (gb_refl _ _) _
set_option maxRecDepth 100000 in
set_option maxHeartbeats 4000000 in
theorem told_zero {w : World} {g : Nat} {call name : Bs} (hb : Box w 57 g #[sv call, sv name, .iface 54 (.int .i64 0)]) :
    Calls Try.prog 8 #[.iface 55 (pv g), .agg #[sv call, sv name, .int .i64 0]] w fun e w' => e = .returned (.bool false) ∧ w.grownBy w' none := by
  have g0 := gb_alloc (gb_refl w none) (.cells #[sv call, sv name, .int .i64 0] 34)
  have h25 := refusal_zero (hb.kept g0 (by simp))
  clear hb
  go_enter Try.func8, Try.ntmps8
  go_wp2_with (go_at_call 25; go_must (refine h25.mono ?_); rintro e w1 ⟨rfl, g1⟩)
  all_goals
    go_ret
    exact ⟨rfl, gb_alloc (gb_trans g0 g1) _⟩
end Go.Proofs.Ytndjimdegkdljaa
