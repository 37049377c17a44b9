import Derived.Test.YtndjimdegkdljaaYc
/-
  slim.
-/
namespace Go.Proofs.Ytndjimdegkdljaa
open Go.RowKit Go.MapKept
set_option linter.unusedVariables false
set_option linter.unusedSimpArgs false
attribute [local go_sem] Oper.semAt_some

set_option maxRecDepth 100000 in
set_option maxHeartbeats 4000000 in
theorem slim_32 (w : World) (on dov : Int) (nm tn : Bs) (ba pa ca : Option Addr) (bn bc pn pc cn cc : Nat) (cnk : Int) (hb : bn ≤ bc) (hp : pn ≤ pc) (hc : cn ≤ cc) (hbm : bc ≤ maxLen) (hpm : pc ≤ maxLen) (hcm : cc ≤ maxLen) :
    Calls Try.prog 32 #[.agg #[.int .i64 on, .int .i64 dov, sv nm, sv tn, .slice ba bn bc, .slice pa pn pc, .slice ca cn cc, .int .i64 cnk]] w fun e w' =>
      e = .returned (.agg #[.int .i64 on, .int .i64 dov, sv nm, sv tn, .slice ba (min bn 2097152) bc, .slice pa (min pn 1000) pc, .slice ca (min cn 10000) cc, .int .i64 cnk]) ∧ w.grownBy w' none := by
  unfold maxLen at hbm hpm hcm
  obtain ⟨bm, hbe⟩ : ∃ bm, min bn 2097152 = bm := ⟨_, rfl⟩
  obtain ⟨pm, hpe⟩ : ∃ pm, min pn 1000 = pm := ⟨_, rfl⟩
  obtain ⟨cm, hce⟩ : ∃ cm, min cn 10000 = cm := ⟨_, rfl⟩
  rw [hbe, hpe, hce]
  by_cases h0 : bn ≤ 2097152
  · by_cases h1 : pn ≤ 1000
    · by_cases h2 : cn ≤ 10000
      · obtain rfl : bm = bn := by omega
        have ebm : ¬ (2097152 : Int) < (bm : Int) := by omega
        obtain rfl : pm = pn := by omega
        have epm : ¬ (1000 : Int) < (pm : Int) := by omega
        obtain rfl : cm = cn := by omega
        have ecm : ¬ (10000 : Int) < (cm : Int) := by omega
        clear hbe hpe hce
        go_enter Try.func32, Try.ntmps32
        go_wp2
        refine bodyPost_ret (v := _) (by simp [results, Try.results32, go_sem]) rfl ⟨rfl, ?_⟩
        exact gb_alloc (gb_alloc (gb_refl _ _) _) _
      · obtain rfl : bm = bn := by omega
        have ebm : ¬ (2097152 : Int) < (bm : Int) := by omega
        obtain rfl : pm = pn := by omega
        have epm : ¬ (1000 : Int) < (pm : Int) := by omega
        obtain rfl : cm = 10000 := by omega
        have ecm : (10000 : Int) < (cn : Int) := by omega
        have icm : (10000 : Int) ≤ (cc : Int) := by omega
        have jcm : 10000 ≤ cc := by omega
        clear hbe hpe hce
        go_enter Try.func32, Try.ntmps32
        go_wp2
        refine bodyPost_ret (v := _) (by simp [results, Try.results32, go_sem]) rfl ⟨rfl, ?_⟩
        exact gb_alloc (gb_alloc (gb_refl _ _) _) _
    · by_cases h2 : cn ≤ 10000
      · obtain rfl : bm = bn := by omega
        have ebm : ¬ (2097152 : Int) < (bm : Int) := by omega
        obtain rfl : pm = 1000 := by omega
        have epm : (1000 : Int) < (pn : Int) := by omega
        have ipm : (1000 : Int) ≤ (pc : Int) := by omega
        have jpm : 1000 ≤ pc := by omega
        obtain rfl : cm = cn := by omega
        have ecm : ¬ (10000 : Int) < (cm : Int) := by omega
        clear hbe hpe hce
        go_enter Try.func32, Try.ntmps32
        go_wp2
        refine bodyPost_ret (v := _) (by simp [results, Try.results32, go_sem]) rfl ⟨rfl, ?_⟩
        exact gb_alloc (gb_alloc (gb_refl _ _) _) _
      · obtain rfl : bm = bn := by omega
        have ebm : ¬ (2097152 : Int) < (bm : Int) := by omega
        obtain rfl : pm = 1000 := by omega
        have epm : (1000 : Int) < (pn : Int) := by omega
        have ipm : (1000 : Int) ≤ (pc : Int) := by omega
        have jpm : 1000 ≤ pc := by omega
        obtain rfl : cm = 10000 := by omega
        have ecm : (10000 : Int) < (cn : Int) := by omega
        have icm : (10000 : Int) ≤ (cc : Int) := by omega
        have jcm : 10000 ≤ cc := by omega
        clear hbe hpe hce
        go_enter Try.func32, Try.ntmps32
        go_wp2
        refine bodyPost_ret (v := _) (by simp [results, Try.results32, go_sem]) rfl ⟨rfl, ?_⟩
        exact gb_alloc (gb_alloc (gb_refl _ _) _) _
  · by_cases h1 : pn ≤ 1000
    · by_cases h2 : cn ≤ 10000
      · obtain rfl : bm = 2097152 := by omega
        have ebm : (2097152 : Int) < (bn : Int) := by omega
        have ibm : (2097152 : Int) ≤ (bc : Int) := by omega
        have jbm : 2097152 ≤ bc := by omega
        obtain rfl : pm = pn := by omega
        have epm : ¬ (1000 : Int) < (pm : Int) := by omega
        obtain rfl : cm = cn := by omega
        have ecm : ¬ (10000 : Int) < (cm : Int) := by omega
        clear hbe hpe hce
        go_enter Try.func32, Try.ntmps32
        go_wp2
        refine bodyPost_ret (v := _) (by simp [results, Try.results32, go_sem]) rfl ⟨rfl, ?_⟩
        exact gb_alloc (gb_alloc (gb_refl _ _) _) _
      · obtain rfl : bm = 2097152 := by omega
        have ebm : (2097152 : Int) < (bn : Int) := by omega
        have ibm : (2097152 : Int) ≤ (bc : Int) := by omega
        have jbm : 2097152 ≤ bc := by omega
        obtain rfl : pm = pn := by omega
        have epm : ¬ (1000 : Int) < (pm : Int) := by omega
        obtain rfl : cm = 10000 := by omega
        have ecm : (10000 : Int) < (cn : Int) := by omega
        have icm : (10000 : Int) ≤ (cc : Int) := by omega
        have jcm : 10000 ≤ cc := by omega
        clear hbe hpe hce
        go_enter Try.func32, Try.ntmps32
        go_wp2
        refine bodyPost_ret (v := _) (by simp [results, Try.results32, go_sem]) rfl ⟨rfl, ?_⟩
        exact gb_alloc (gb_alloc (gb_refl _ _) _) _
    · by_cases h2 : cn ≤ 10000
      · obtain rfl : bm = 2097152 := by omega
        have ebm : (2097152 : Int) < (bn : Int) := by omega
        have ibm : (2097152 : Int) ≤ (bc : Int) := by omega
        have jbm : 2097152 ≤ bc := by omega
        obtain rfl : pm = 1000 := by omega
        have epm : (1000 : Int) < (pn : Int) := by omega
        have ipm : (1000 : Int) ≤ (pc : Int) := by omega
        have jpm : 1000 ≤ pc := by omega
        obtain rfl : cm = cn := by omega
        have ecm : ¬ (10000 : Int) < (cm : Int) := by omega
        clear hbe hpe hce
        go_enter Try.func32, Try.ntmps32
        go_wp2
        refine bodyPost_ret (v := _) (by simp [results, Try.results32, go_sem]) rfl ⟨rfl, ?_⟩
        exact gb_alloc (gb_alloc (gb_refl _ _) _) _
      · obtain rfl : bm = 2097152 := by omega
        have ebm : (2097152 : Int) < (bn : Int) := by omega
        have ibm : (2097152 : Int) ≤ (bc : Int) := by omega
        have jbm : 2097152 ≤ bc := by omega
        obtain rfl : pm = 1000 := by omega
        have epm : (1000 : Int) < (pn : Int) := by omega
        have ipm : (1000 : Int) ≤ (pc : Int) := by omega
        have jpm : 1000 ≤ pc := by omega
        obtain rfl : cm = 10000 := by omega
        have ecm : (10000 : Int) < (cn : Int) := by omega
        have icm : (10000 : Int) ≤ (cc : Int) := by omega
        have jcm : 10000 ≤ cc := by omega
        clear hbe hpe hce
        go_enter Try.func32, Try.ntmps32
        go_wp2
        refine bodyPost_ret (v := _) (by simp [results, Try.results32, go_sem]) rfl ⟨rfl, ?_⟩
        exact gb_alloc (gb_alloc (gb_refl _ _) _) _
end Go.Proofs.Ytndjimdegkdljaa
