/-
  The document's own arena (the reference): what it is in memory; There, New.
-/
import Derived.Test.YtknhoncnaigogaaU
namespace Go.Proofs.Ytknhoncnaigogaa
open Go.RowKit
set_option linter.unusedVariables false

/-- The reference's arena in memory. -/
structure IsR (w : World) (b g ps : Nat) (zs : List Int) : Prop where
  hb : w.heap[b]? = some (.cells #[.int .i64 ps, .slice (some ⟨g, 0, none⟩) zs.length zs.length] 89 (0, 0))
  hg : w.heap[g]? = some (.cells (vals zs) 5 (0, 0))
  hne : b ≠ g
  hps : 4096 ≤ ps ∧ ps ≤ 1048576
  hN : zs.length ≤ 1073741824
  hz : ∀ z ∈ zs, 0 ≤ z ∧ z < 256

theorem IsR.c0 {w : World} {b g ps : Nat} {zs : List Int} (h : IsR w b g ps zs) : w.cell? ⟨b, 0, none⟩ = some (.int .i64 ps) := by
  rw [cell_of_row w b 0 _ _ _ h.hb]; rfl
theorem IsR.c1 {w : World} {b g ps : Nat} {zs : List Int} (h : IsR w b g ps zs) : w.cell? ⟨b, 1, none⟩ = some (.slice (some ⟨g, 0, none⟩) zs.length zs.length) := by
  rw [cell_of_row w b 1 _ _ _ h.hb]; rfl
theorem IsR.turned {w w' : World} {b g ps : Nat} {zs zs' : List Int} (h : IsR w b g ps zs) (hf : w.grownBy w' (some g)) (hg : w'.heap[g]? = some (.cells (vals zs') 5 (0, 0)))
    (hl : zs'.length = zs.length) (hz : ∀ z ∈ zs', 0 ≤ z ∧ z < 256) : IsR w' b g ps zs' := by
  have hlt : b < w.heap.size := (Array.getElem?_eq_some_iff.1 h.hb).1
  exact ⟨by rw [hf.block b hlt (by simpa using h.hne), hl]; exact h.hb, hg, h.hne, h.hps, by rw [hl]; exact h.hN, hz⟩
theorem IsR.kept {w w' : World} {b g ps : Nat} {zs : List Int} (h : IsR w b g ps zs) {row : Option Nat} (hf : w.grownBy w' row) (h1 : some b ≠ row) (h2 : some g ≠ row) : IsR w' b g ps zs := by
  have hlt : b < w.heap.size := (Array.getElem?_eq_some_iff.1 h.hb).1
  have hlg : g < w.heap.size := (Array.getElem?_eq_some_iff.1 h.hg).1
  exact ⟨by rw [hf.block b hlt h1]; exact h.hb, by rw [hf.block g hlg h2]; exact h.hg, h.hne, h.hps, h.hN, h.hz⟩

theorem page_yes_eq (x n p : Int) (hp : 4096 ≤ p) (hx : 0 ≤ x) (hn : 0 < n) (h : x % p + n ≤ p) : x / p = (x + n - 1) / p := by
  have h1 := Int.mul_ediv_add_emod x p
  have h2 := Int.emod_nonneg x (show p ≠ 0 by omega)
  have e : x + n - 1 = (x % p + n - 1) + p * (x / p) := by omega
  have e2 : (x % p + n - 1) / p = 0 := Int.ediv_eq_zero_of_lt (by omega) (by omega)
  rw [e, Int.add_mul_ediv_left _ _ (by omega), e2]
  omega
theorem page_no_eq (x n p : Int) (hp : 4096 ≤ p) (hx : 0 ≤ x) (hn : 0 < n) (h : p < x % p + n) : ¬ x / p = (x + n - 1) / p := by
  have h1 := Int.mul_ediv_add_emod x p
  have h2 := Int.emod_nonneg x (show p ≠ 0 by omega)
  have h3 := Int.emod_lt_of_pos x (show 0 < p by omega)
  have e : x + n - 1 = (x % p + n - 1) + p * (x / p) := by omega
  rw [e, Int.add_mul_ediv_left _ _ (by omega)]
  have : 1 ≤ (x % p + n - 1) / p := by
    have := Int.le_ediv_iff_mul_le (a := 1) (b := x % p + n - 1) (show 0 < p by omega)
    rw [this]; omega
  omega

set_option maxHeartbeats 1000000 in
theorem IsR.there_yes {w : World} {b g ps : Nat} {zs : List Int} (h : IsR w b g ps zs) (x n : Int) (ht : There ps zs.length x n) :
    Calls Try.prog 71 #[.pointer (some ⟨b, 0, none⟩), .int .i64 x, .int .i64 n] w fun e w' => e = .returned (.bool true) ∧ ∃ q, w' = w.drewN q := by
  obtain ⟨h1, h2, h3, h4⟩ := ht
  have hps := h.hps
  have hN := h.hN
  have c0 := h.c0
  have c1 := h.c1
  by_cases hn : n = 0
  · have hb : (n == 0) = true := by simp [hn]
    clear hn h4
    go_enter Try.func71, Try.ntmps71
    go_wp2
    go_ret
    exact ⟨rfl, 0, rfl⟩
  · have hb : (n == 0) = false := by simp [hn]
    have hq := page_yes_eq x n ps (by omega) h2 (by omega) h4
    obtain ⟨Q, hQ⟩ : ∃ Q, x / (ps : Int) = Q := ⟨_, rfl⟩
    rw [hQ] at hq
    have hq' : (x + n - 1) / (ps : Int) = Q := hq.symm
    clear hq h4
    go_enter Try.func71, Try.ntmps71
    go_wp2
    go_quiet (fail)
    go_wp2
    go_ret
    exact ⟨rfl, _, rfl⟩

set_option maxHeartbeats 1000000 in
theorem IsR.there_no {w : World} {b g ps : Nat} {zs : List Int} (h : IsR w b g ps zs) (x n : Int) (hx : x ≤ 9223372036854775807) (ht : ¬ There ps zs.length x n) :
    Calls Try.prog 71 #[.pointer (some ⟨b, 0, none⟩), .int .i64 x, .int .i64 n] w fun e w' => e = .returned (.bool false) ∧ ∃ q, w' = w.drewN q := by
  have hps := h.hps
  have hN := h.hN
  have c0 := h.c0
  have c1 := h.c1
  have hm1 := Int.emod_nonneg x (show (ps : Int) ≠ 0 by omega)
  have hm2 := Int.emod_lt_of_pos x (show (0 : Int) < ps by omega)
  unfold There at ht
  by_cases h1 : n < 0
  · clear ht
    go_enter Try.func71, Try.ntmps71
    go_wp2
    go_ret
    exact ⟨rfl, 0, rfl⟩
  by_cases h2 : x < 0
  · clear ht
    go_enter Try.func71, Try.ntmps71
    go_wp2
    go_ret
    exact ⟨rfl, 0, rfl⟩
  by_cases h3 : (zs.length : Int) < x
  · clear ht
    go_enter Try.func71, Try.ntmps71
    go_wp2
    go_ret
    exact ⟨rfl, 0, rfl⟩
  by_cases h4 : (zs.length : Int) - x < n
  · clear ht
    go_enter Try.func71, Try.ntmps71
    go_wp2
    go_ret
    exact ⟨rfl, 0, rfl⟩
  have h5 : (ps : Int) < x % ps + n := by omega
  have hn : ¬ n = 0 := by omega
  have hb : (n == 0) = false := by simp [hn]
  have hq := page_no_eq x n ps (by omega) (by omega) (by omega) h5
  obtain ⟨Q, hQ⟩ : ∃ Q, x / (ps : Int) = Q := ⟨_, rfl⟩
  obtain ⟨R, hR⟩ : ∃ R, (x + n - 1) / (ps : Int) = R := ⟨_, rfl⟩
  rw [hQ, hR] at hq
  have hq' : (Q == R) = false := by simp [hq]
  clear hq h5 hm1 hm2 ht
  go_enter Try.func71, Try.ntmps71
  go_wp2
  go_quiet (fail)
  go_wp2
  go_ret
  exact ⟨rfl, _, rfl⟩

theorem rnew_any (ps m : Nat) (w : World) (hk : 4096 ≤ ps ∧ ps ≤ 1048576) (hm : 1 ≤ m ∧ m ≤ 1024) :
    Calls Try.prog 36 #[.int .i64 ps, .int .i64 m] w fun e w' => e = .returned (.pointer (some ⟨w.heap.size + 1, 0, none⟩)) ∧
      w.grownBy w' none ∧ IsR w' (w.heap.size + 1) w.heap.size ps (List.replicate (ps * m) 0) := by
  have hN : ps * m ≤ 1073741824 := Nat.le_trans (Nat.mul_le_mul hk.2 hm.2) (by decide)
  obtain ⟨N, hN'⟩ : ∃ N, N = ps * m := ⟨_, rfl⟩
  have hNi : (ps : Int) * m = N := by rw [hN']; simp
  rw [← hN'] at hN ⊢
  have hmk := run_make_bytes N (by omega)
  clear hN'
  go_enter Try.func36, Try.ntmps36
  go_wp2
  go_ret
  refine ⟨rfl, gb_alloc (gb_alloc (gb_refl _ _) _) _, ?_⟩
  have hh : ∀ (o1 o2 : Obj), ((w.alloc o1).alloc o2).heap[w.heap.size + 1]? = some o2 := fun o1 o2 => heap_alloc2_new w o1 o2
  refine ⟨by rw [hh]; simp, by rw [heap_alloc2_old], by omega, hk, by simpa using hN, ?_⟩
  intro z hz
  have := List.eq_of_mem_replicate hz
  omega

end Go.Proofs.Ytknhoncnaigogaa
