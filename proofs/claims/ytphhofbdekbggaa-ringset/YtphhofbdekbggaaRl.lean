/-
  What is no server.
-/
import Derived.Test.YtphhofbdekbggaaRk
namespace Go.Proofs.Ytphhofbdekbggaa
open Go.RowKit
set_option linter.unusedVariables false
set_option linter.unusedSimpArgs false

/-- A server that may be. -/
def svOk (p : Sv) : Bool := decide (1 ≤ p.1.size) && decide (p.1.size ≤ 64) && decide (1 ≤ p.2) && decide (p.2 ≤ 8)
theorem isNone_29 (s : ByteArray) (wt : Int) (w : World) (hs : s.size ≤ maxLen) : Calls Try.prog 29 #[.agg #[.string s, .int .i64 wt]] w fun e w' => e = .returned (.bool (!svOk (s, wt))) ∧ ∃ q os, w' = Sort.grow (w.drewN q) os := by
  unfold maxLen at hs
  have hd : svOk (s, wt) = (decide (1 ≤ s.size) && decide (s.size ≤ 64) && decide (1 ≤ wt) && decide (wt ≤ 8)) := rfl
  generalize svOk (s, wt) = ok at *
  generalize hm : s.size = m at *
  by_cases h1 : m < 1
  · have ho : ok = false := by rw [hd]; simp; omega
    subst ho
    clear hd
    go_enter Try.func29, Try.ntmps29
    go_wp2
    go_ret
    exact ⟨by rfl, 0, _, by rw [Sort.alloc_eq_grow]; rfl⟩
  by_cases h2 : 64 < m
  · have ho : ok = false := by rw [hd]; simp; omega
    subst ho
    clear hd
    go_enter Try.func29, Try.ntmps29
    go_wp2
    go_ret
    exact ⟨by rfl, 0, _, by rw [Sort.alloc_eq_grow]; rfl⟩
  by_cases h3 : wt < 1
  · have ho : ok = false := by rw [hd]; simp; omega
    subst ho
    clear hd
    go_enter Try.func29, Try.ntmps29
    go_wp2
    go_ret
    exact ⟨by rfl, 0, _, by rw [Sort.alloc_eq_grow]; rfl⟩
  by_cases h4 : 8 < wt
  · have ho : ok = false := by rw [hd]; simp; omega
    subst ho
    clear hd
    go_enter Try.func29, Try.ntmps29
    go_wp2
    go_ret
    exact ⟨by rfl, 0, _, by rw [Sort.alloc_eq_grow]; rfl⟩
  have ho : ok = true := by rw [hd]; simp; omega
  subst ho
  clear hd
  go_enter Try.func29, Try.ntmps29
  go_wp2
  go_ret
  have e1 : decide ((m : Int) < 1) = false := by simp; omega
  have e2 : decide (64 < (m : Int)) = false := by simp; omega
  refine ⟨?_, 0, _, by rw [Sort.alloc_eq_grow]; rfl⟩
  show Ending.returned (.bool (decide ((m : Int) < 1) || decide (64 < (m : Int)))) = _
  rw [e1, e2]
  rfl
end Go.Proofs.Ytphhofbdekbggaa
