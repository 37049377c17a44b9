import Derived.Test.YtndjimdegkdljaaU
import Derived.Test.YtndjimdegkdljaaS
/-
  What a refusal says: its words; told.
-/
namespace Go.Proofs.Ytndjimdegkdljaa
open Go.RowKit
set_option linter.unusedVariables false
set_option linter.unusedSimpArgs false
attribute [local go_sem] Oper.semAt_some

theorem as55 (v : Value) (w : World) : (Instr.typeAssert (.iface 55 v) 30 55 true).run Try.prog w = .ok (.tuple #[v, .bool true]) w := by kernel_rfl
theorem as54 (v : Value) (w : World) : (Instr.typeAssert (.iface 54 v) 30 54 true).run Try.prog w = .ok (.tuple #[v, .bool true]) w := by kernel_rfl
theorem methodErr54 (v : Value) (w : World) : (Go.method 309 54 v "Error").run Try.prog w = .ok (31, v) w := by kernel_rfl
theorem methodErr55 (v : Value) (w : World) : (Go.method 309 55 v "Error").run Try.prog w = .ok (21, v) w := by kernel_rfl
set_option maxRecDepth 100000 in
set_option maxHeartbeats 4000000 in
theorem refusal_25 {w : World} {v : Value} {call name : Bs} {why : Int} (h : ErrV w v call name why) :
    Calls Try.prog 25 #[v] w fun e w' => e = .returned (.tuple #[fltO call name why, .bool true]) ∧ w.grownBy w' none := by
  rcases h with ⟨rfl, rfl⟩ | ⟨h1, g, rfl, hb⟩
  · unfold fltO
    simp only [if_true]
    go_enter Try.func25, Try.ntmps25
    go_wp2
    refine bodyPost_ret (v := .tuple #[.agg #[sv [], sv [], .int .i64 0], .bool true]) (by simp [results, Try.results25, go_sem]) rfl ⟨rfl, gb_alloc (gb_refl _ _) _⟩
  · have a55 := as55
    have a54 := as54
    have hlt := hb.lt
    have c0 : w.cell? ⟨g, 0, none⟩ = some (sv call) := hb.cell 0
    have c1 : w.cell? ⟨g, 1, none⟩ = some (sv name) := hb.cell 1
    have c2 : w.cell? ⟨g, 2, none⟩ = some (.iface 54 (.int .i64 why)) := hb.cell 2
    have k0 := gb_cellN (World.grownBy_alloc w (.cells #[sv [], sv [], .int .i64 0] 34) none) c0
    have k1 := gb_cellN (World.grownBy_alloc w (.cells #[sv [], sv [], .int .i64 0] 34) none) c1
    have k2 := gb_cellN (World.grownBy_alloc w (.cells #[sv [], sv [], .int .i64 0] 34) none) c2
    have hw0 : (why == 0) = false := by simp [h1]
    have hn : ¬ g = w.heap.size := by omega
    unfold fltO
    simp only [h1, if_false]
    go_enter Try.func25, Try.ntmps25
    go_upto_region 9 with fail
    go_region
    all_goals
      go_wp2
      refine bodyPost_ret (v := .tuple #[.agg #[sv call, sv name, .int .i64 why], .bool true]) (by simp [results, Try.results25, go_sem, bne, hw0]) rfl ⟨rfl, ?_⟩
      first
        | exact gb_drew (gb_alloc (gb_refl _ _) _)
        | exact gb_alloc (gb_refl _ _) _
def sp (name : Bs) : Bs := if name = [] then [] else 32 :: name
/-- The words of a Fault. -/
def ftx (call name : Bs) (e : Bs) : Bs := call ++ sp name ++ [58, 32] ++ e
theorem bs_app (a b : Bs) : (ByteArray.mk a.toArray) ++ (ByteArray.mk b.toArray) = ByteArray.mk (a ++ b).toArray := by
  apply ByteArray.ext
  simp
set_option maxRecDepth 100000 in
set_option maxHeartbeats 4000000 in
theorem error_21 {w : World} {g : Nat} {call name : Bs} {why : Int} (hb : Box w 57 g #[sv call, sv name, .iface 54 (.int .i64 why)]) (hc : call.length ≤ 1000) (hn : name.length ≤ 140737488351232) :
    Calls Try.prog 21 #[pv g] w fun e w' => e = .returned (sv (ftx call name (etx why))) ∧ w' = w := by
  have c0 : w.cell? ⟨g, 0, none⟩ = some (sv call) := hb.cell 0
  have c1 : w.cell? ⟨g, 1, none⟩ = some (sv name) := hb.cell 1
  have c2 : w.cell? ⟨g, 2, none⟩ = some (.iface 54 (.int .i64 why)) := hb.cell 2
  have m54 := methodErr54
  have h31 := error_31 why w
  have hel := etx_len why
  unfold ftx sp
  clear hb
  generalize etx why = E at *
  by_cases h0 : name = []
  · subst h0
    simp only [if_true]
    go_enter Try.func21, Try.ntmps21
    go_wp2_with (go_at_call 31; go_must (refine h31.mono ?_); rintro e w1 ⟨rfl, hw1⟩; have hw2 := hw1.symm; subst hw2)
    go_ret
    refine ⟨?_, rfl⟩
    have e : (ByteArray.mk call.toArray) ++ (ByteArray.mk #[58, 32]) ++ (ByteArray.mk E.toArray) = ByteArray.mk (call ++ [] ++ [58, 32] ++ E).toArray := by
      rw [show ByteArray.mk #[58, 32] = ByteArray.mk ([58, 32] : Bs).toArray from rfl, bs_app, bs_app, List.append_nil]
    show Ending.returned (Value.string _) = Ending.returned (Value.string _)
    rw [← e]
  · have e0 : List.isEmpty name = false := by simpa using h0
    simp only [h0, if_false]
    go_enter Try.func21, Try.ntmps21
    go_wp2_with (go_at_call 31; go_must (refine h31.mono ?_); rintro e w1 ⟨rfl, hw1⟩; have hw2 := hw1.symm; subst hw2)
    go_ret
    refine ⟨?_, rfl⟩
    have e : (ByteArray.mk call.toArray) ++ (ByteArray.mk #[32] ++ ByteArray.mk name.toArray) ++ (ByteArray.mk #[58, 32]) ++ (ByteArray.mk E.toArray) = ByteArray.mk (call ++ 32 :: name ++ [58, 32] ++ E).toArray := by
      rw [show ByteArray.mk #[58, 32] = ByteArray.mk ([58, 32] : Bs).toArray from rfl, show ByteArray.mk #[32] = ByteArray.mk ([32] : Bs).toArray from rfl, bs_app, bs_app, bs_app, bs_app]
      rfl
    show Ending.returned (Value.string _) = Ending.returned (Value.string _)
    rw [← e]
set_option maxRecDepth 100000 in
set_option maxHeartbeats 4000000 in
theorem told_8 {w : World} {v : Value} {call name : Bs} {why : Int} (h : ErrV w v call name why) (hc : call.length ≤ 1000) (hn : name.length ≤ 140737488351232) :
    Calls Try.prog 8 #[v, fltO call name why] w fun e w' => e = .returned (.bool true) ∧ w.grownBy w' none := by
  rcases h with ⟨rfl, rfl⟩ | ⟨h1, g, rfl, hb⟩
  · have g0 := gb_alloc (gb_refl w none) (.cells #[sv [], sv [], .int .i64 0] 34)
    have h25 := refusal_25 (w := w.alloc (.cells #[sv [], sv [], .int .i64 0] 34)) (call := call) (name := name) (.inl ⟨rfl, rfl⟩)
    have B0 := Box.new w 34 #[sv [], sv [], .int .i64 0]
    unfold fltO at h25 ⊢
    simp only [if_true] at h25 ⊢
    go_enter Try.func8, Try.ntmps8
    go_wp2_with (go_at_call 25; go_must (refine h25.mono ?_); rintro e w1 ⟨rfl, g1⟩; (have b1 := B0.kept g1 (by simp)); (have c0 : w1.cell? ⟨w.heap.size, 0, none⟩ = some (sv []) := b1.cell 0); (have c1 : w1.cell? ⟨w.heap.size, 1, none⟩ = some (sv []) := b1.cell 1); (have c2 : w1.cell? ⟨w.heap.size, 2, none⟩ = some (.int .i64 0) := b1.cell 2); (have k0 := fun o => gb_cellN (World.grownBy_alloc w1 o none) c0); (have k1 := fun o => gb_cellN (World.grownBy_alloc w1 o none) c1); (have k2 := fun o => gb_cellN (World.grownBy_alloc w1 o none) c2))
    all_goals
      go_ret
      exact ⟨rfl, gb_alloc (gb_trans g0 g1) _⟩
  · have g0 := gb_alloc (gb_refl w none) (.cells #[sv call, sv name, .int .i64 why] 34)
    have hb0 := hb.kept g0 (by simp)
    have h25 := refusal_25 (w := w.alloc (.cells #[sv call, sv name, .int .i64 why] 34)) (call := call) (name := name) (why := why) (.inr ⟨h1, g, rfl, hb0⟩)
    have B0 := Box.new w 34 #[sv call, sv name, .int .i64 why]
    have m55 := methodErr55
    have h31 := fun W => error_31 why W
    have hel := etx_len why
    have h21 := fun (W : World) (gW : w.grownBy W none) => error_21 (hb.kept gW (by simp)) hc hn
    have hflt : fltO call name why = .agg #[sv call, sv name, .int .i64 why] := by unfold fltO; rw [if_neg h1]
    rw [hflt] at h25 ⊢
    unfold ftx sp at h21
    clear hb hb0 hflt
    generalize etx why = E at *
    by_cases hn0 : name = []
    · subst hn0
      simp only [if_true, List.append_nil] at h21
      go_enter Try.func8, Try.ntmps8
      go_upto_region 9 with (go_at_call 25; go_must (refine h25.mono ?_); rintro e w1 ⟨rfl, g1⟩; (have b1 := B0.kept g1 (by simp)); (have c0 : w1.cell? ⟨w.heap.size, 0, none⟩ = some (sv call) := b1.cell 0); (have c1 : w1.cell? ⟨w.heap.size, 1, none⟩ = some (sv []) := b1.cell 1); (have c2 : w1.cell? ⟨w.heap.size, 2, none⟩ = some (.int .i64 why) := b1.cell 2); (have k0 := fun o => gb_cellN (World.grownBy_alloc w1 o none) c0); (have k1 := fun o => gb_cellN (World.grownBy_alloc w1 o none) c1); (have k2 := fun o => gb_cellN (World.grownBy_alloc w1 o none) c2))
      have GW : w.grownBy (w1.alloc (.cells #[.string ⟨call.toArray⟩, .string ⟨#[]⟩, .int .i64 why] 34)) none := gb_alloc (gb_trans g0 g1) _
      have s2 := k2 (.cells #[.string ⟨call.toArray⟩, .string ⟨#[]⟩, .int .i64 why] 34)
      generalize w1.alloc (.cells #[.string ⟨call.toArray⟩, .string ⟨#[]⟩, .int .i64 why] 34) = W at *
      clear k0 k1 k2 c0 c1 c2 h25 B0 b1
      go_quiet ((first
        | (go_at_call 21; exact Calls.quiet_of_same (h21 _ (gb_drewN GW _)))
        | (go_at_call 31; exact Calls.quiet_of_same (h31 _))))
      go_wp2_with fail
      go_ret
      refine ⟨?_, gb_drewN GW _⟩
      have e : (ByteArray.mk call.toArray) ++ (ByteArray.mk #[58, 32]) ++ (ByteArray.mk E.toArray) = ByteArray.mk (call ++ [58, 32] ++ E).toArray := by
        rw [show ByteArray.mk #[58, 32] = ByteArray.mk ([58, 32] : Bs).toArray from rfl, bs_app, bs_app]
      rw [e]
      simp
    · have e0 : List.isEmpty name = false := by simpa using hn0
      simp only [hn0, if_false] at h21
      go_enter Try.func8, Try.ntmps8
      go_upto_region 9 with (go_at_call 25; go_must (refine h25.mono ?_); rintro e w1 ⟨rfl, g1⟩; (have b1 := B0.kept g1 (by simp)); (have c0 : w1.cell? ⟨w.heap.size, 0, none⟩ = some (sv call) := b1.cell 0); (have c1 : w1.cell? ⟨w.heap.size, 1, none⟩ = some (sv name) := b1.cell 1); (have c2 : w1.cell? ⟨w.heap.size, 2, none⟩ = some (.int .i64 why) := b1.cell 2); (have k0 := fun o => gb_cellN (World.grownBy_alloc w1 o none) c0); (have k1 := fun o => gb_cellN (World.grownBy_alloc w1 o none) c1); (have k2 := fun o => gb_cellN (World.grownBy_alloc w1 o none) c2))
      have GW : w.grownBy (w1.alloc (.cells #[.string ⟨call.toArray⟩, .string ⟨name.toArray⟩, .int .i64 why] 34)) none := gb_alloc (gb_trans g0 g1) _
      have s2 := k2 (.cells #[.string ⟨call.toArray⟩, .string ⟨name.toArray⟩, .int .i64 why] 34)
      generalize w1.alloc (.cells #[.string ⟨call.toArray⟩, .string ⟨name.toArray⟩, .int .i64 why] 34) = W at *
      clear k0 k1 k2 c0 c1 c2 h25 B0 b1
      go_quiet ((first
        | (go_at_call 21; exact Calls.quiet_of_same (h21 _ (gb_drewN GW _)))
        | (go_at_call 31; exact Calls.quiet_of_same (h31 _))))
      go_wp2_with fail
      go_ret
      refine ⟨?_, gb_drewN GW _⟩
      have e : (ByteArray.mk call.toArray) ++ ByteArray.mk #[32] ++ ByteArray.mk name.toArray ++ (ByteArray.mk #[58, 32]) ++ (ByteArray.mk E.toArray) = ByteArray.mk (call ++ [32] ++ name ++ [58, 32] ++ E).toArray := by
        rw [show ByteArray.mk #[58, 32] = ByteArray.mk ([58, 32] : Bs).toArray from rfl, show ByteArray.mk #[32] = ByteArray.mk ([32] : Bs).toArray from rfl, bs_app, bs_app, bs_app, bs_app]
      rw [e]
      simp
end Go.Proofs.Ytndjimdegkdljaa
