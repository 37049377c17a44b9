/-
  The document's board.
-/
import Derived.Test.YtonbkpfnpnlkpaaDoorI
namespace Go.Proofs.YtonbkpfnpnlkpaaDoor
open Go.RowKit
set_option linter.unusedVariables false
set_option linter.unusedSimpArgs false
attribute [local go_sem] Oper.semAt_some

def rbA (N : Cn) : Array Value := ((List.range 31).map (fun i => Value.int .u64 (N i : Nat))).toArray
/-- The document's board in memory. -/
def Rb (w : World) (b : Nat) (N : Cn) : Prop := Box w 93 b (rbA N)
theorem rbA_get (N : Cn) (i : Nat) (h : i < 31) : (rbA N)[i]? = some (.int .u64 (N i : Nat)) := by
  simp [rbA, h]
theorem rbA_set (N : Cn) (i v : Nat) (h : i < 31) : (rbA N).setIfInBounds i (.int .u64 (v : Nat)) = rbA (upd N i v) := by
  apply Array.ext_getElem?
  intro j
  simp only [rbA, List.setIfInBounds_toArray, List.getElem?_toArray]
  rw [List.getElem?_set]
  simp only [List.getElem?_map, List.length_map, List.length_range]
  by_cases hj : i = j
  · subst hj; simp [h, upd]
  · simp only [hj, if_false]
    by_cases h3 : j < 31
    · simp [h3, upd, show ¬ j = i from fun e => hj e.symm]
    · simp [h3]
theorem Rb.get {w : World} {b : Nat} {N : Cn} (h : Rb w b N) {i : Nat} (hi : i < 31) : w.cell? ⟨b, i, none⟩ = some (.int .u64 (N i : Nat)) := (Box.cell h i).trans (rbA_get N i hi)
theorem Rb.fz {w : World} {b : Nat} {N : Cn} (h : Rb w b N) (i : Nat) : w.frozen? ⟨b, i, none⟩ = false := Box.fz h i
theorem Rb.set {w : World} {b : Nat} {N : Cn} (h : Rb w b N) {i : Nat} (hi : i < 31) (v : Nat) : Rb (w.setCell ⟨b, i, none⟩ (.int .u64 (v : Nat))) b (upd N i v) := by
  have := Box.set h i (.int .u64 (v : Nat))
  rw [rbA_set N i v hi] at this
  exact this
theorem Rb.lt {w : World} {b : Nat} {N : Cn} (h : Rb w b N) : b < w.heap.size := Box.lt h
theorem Rb.kept {w w' : World} {b : Nat} {N : Cn} (h : Rb w b N) {F : Nat → Prop} (hk : Kp F w w') (hb : ¬ F b) : Rb w' b N := hk.box h hb
set_option maxRecDepth 100000 in
set_option maxHeartbeats 4000000 in
theorem is_39 (n : Int) (w : World) : Calls Tryd.prog 39 #[.int .i64 n] w fun e w' => e = .returned (.bool (nm n)) ∧ w' = w := by
  go_enter Tryd.func39, Tryd.ntmps39
  go_wp2
  all_goals (go_ret; refine ⟨?_, rfl⟩; simp_all [nm])
  all_goals omega
set_option maxRecDepth 100000 in
set_option maxHeartbeats 4000000 in
theorem rnew_12 (w : World) : Calls Tryd.prog 12 #[] w fun e w' => e = .returned (.pointer (some ⟨w.heap.size, 0, none⟩)) ∧ Rb w' w.heap.size N0 ∧ w.grownBy w' none ∧ w'.heap.size = w.heap.size + 1 := by
  have hz : rbA N0 = #[.int .u64 0, .int .u64 0, .int .u64 0, .int .u64 0, .int .u64 0, .int .u64 0, .int .u64 0, .int .u64 0, .int .u64 0, .int .u64 0, .int .u64 0, .int .u64 0, .int .u64 0, .int .u64 0, .int .u64 0, .int .u64 0, .int .u64 0, .int .u64 0, .int .u64 0, .int .u64 0, .int .u64 0, .int .u64 0, .int .u64 0, .int .u64 0, .int .u64 0, .int .u64 0, .int .u64 0, .int .u64 0, .int .u64 0, .int .u64 0, .int .u64 0] := by rfl
  have hn := Box.new w 93 (rbA N0)
  have hg := World.grownBy_alloc w (.cells (rbA N0) 93) none
  have hs : (w.alloc (.cells (rbA N0) 93)).heap.size = w.heap.size + 1 := by simp
  rw [hz] at hn hg hs
  go_enter Tryd.func12, Tryd.ntmps12
  go_wp2
  go_ret
  refine ⟨rfl, ?_, hg, hs⟩
  unfold Rb
  rw [hz]
  exact hn
set_option maxRecDepth 100000 in
set_option maxHeartbeats 4000000 in
theorem rread_18 (b : Nat) (N : Cn) (n : Int) (w : World) (hB : Rb w b N) :
    Calls Tryd.prog 18 #[.pointer (some ⟨b, 0, none⟩), .int .i64 n] w fun e w' => e = .returned (.int .u64 (rd N n : Nat)) ∧ w' = w := by
  have h39 := fun W => is_39 n W
  cases hn : nm n
  · rw [hn] at h39
    simp only [rd, hn]
    go_enter Tryd.func18, Tryd.ntmps18
    go_wp2_with (go_at_call 39; (with_reducible refine (h39 _).mono ?_); rintro e w1 ⟨rfl, h1⟩; (have h2 := h1.symm); subst h2)
    go_ret
    exact ⟨rfl, rfl⟩
  · rw [hn] at h39
    obtain ⟨i, hi, rfl⟩ := nm_yes hn
    have hc := hB.get (i := i + 1) (by omega)
    have hf := hB.fz (i + 1)
    have hi2 : (i : Int) + 1 < 31 := by omega
    have hi0 : (0 : Int) ≤ (i : Int) + 1 := by omega
    have er : rd N ((i : Int) + 1) = N (i + 1) := by simp only [rd, hn, if_true]; congr 1
    rw [er]
    clear er hn
    go_enter Tryd.func18, Tryd.ntmps18
    go_wp2_with (go_at_call 39; (with_reducible refine (h39 _).mono ?_); rintro e w1 ⟨rfl, h1⟩; (have h2 := h1.symm); subst h2)
    go_ret
    exact ⟨rfl, rfl⟩
set_option maxRecDepth 100000 in
set_option maxHeartbeats 4000000 in
theorem rset_34 (b : Nat) (N : Cn) (n : Int) (x : Nat) (w : World) (hB : Rb w b N) :
    Calls Tryd.prog 34 #[.pointer (some ⟨b, 0, none⟩), .int .i64 n, .int .u64 (x : Nat)] w fun e w' => e = .returned (.tuple #[]) ∧ Rb w' b (if nm n then upd N n.toNat x else N) ∧ Kp (· = b) w w' := by
  have h39 := fun W => is_39 n W
  cases hn : nm n
  · rw [hn] at h39
    go_enter Tryd.func34, Tryd.ntmps34
    go_wp2_with (go_at_call 39; (with_reducible refine (h39 _).mono ?_); rintro e w1 ⟨rfl, h1⟩; (have h2 := h1.symm); subst h2)
    go_end0
    exact ⟨rfl, hB, Kp.refl _ _⟩
  · rw [hn] at h39
    obtain ⟨i, hi, rfl⟩ := nm_yes hn
    have hc := hB.get (i := i + 1) (by omega)
    have hf := hB.fz (i + 1)
    have hi2 : (i : Int) + 1 < 31 := by omega
    have hi0 : (0 : Int) ≤ (i : Int) + 1 := by omega
    have er : ((i : Int) + 1).toNat = i + 1 := by omega
    rw [er]
    clear er hn
    go_enter Tryd.func34, Tryd.ntmps34
    go_wp2_with (go_at_call 39; (with_reducible refine (h39 _).mono ?_); rintro e w1 ⟨rfl, h1⟩; (have h2 := h1.symm); subst h2)
    go_end0
    exact ⟨rfl, hB.set (by omega) x, Kp.setCell w b (i + 1) _⟩
theorem wrap_sum (m x : Nat) (hm : m ≤ 18446744073709551615) (hx : x ≤ 18446744073709551615) (h : m + x ≤ 18446744073709551615) : IntKind.u64.wrap ((m : Int) + (x : Int)) = ((m + x : Nat) : Int) := by simp only [IntKind.wrap_u64]; omega
theorem wrap_over (m x : Nat) (hm : m ≤ 18446744073709551615) (hx : x ≤ 18446744073709551615) (h : ¬ m + x ≤ 18446744073709551615) : IntKind.u64.wrap ((m : Int) + (x : Int)) = ((m + x - 18446744073709551616 : Nat) : Int) := by simp only [IntKind.wrap_u64]; omega
set_option maxRecDepth 100000 in
set_option maxHeartbeats 4000000 in
theorem radd_33 (b : Nat) (N : Cn) (n : Int) (x : Nat) (w : World) (hB : Rb w b N) (hN : Fit N) (hx : x ≤ 18446744073709551615) :
    Calls Tryd.prog 33 #[.pointer (some ⟨b, 0, none⟩), .int .i64 n, .int .u64 (x : Nat)] w fun e w' => e = .returned (.tuple #[]) ∧ Rb w' b (if nm n then plus N (sgl n.toNat x) else N) ∧ Kp (· = b) w w' := by
  have h39 := fun W => is_39 n W
  cases hn : nm n
  · rw [hn] at h39
    go_enter Tryd.func33, Tryd.ntmps33
    go_wp2_with (go_at_call 39; (with_reducible refine (h39 _).mono ?_); rintro e w1 ⟨rfl, h1⟩; (have h2 := h1.symm); subst h2)
    refine bodyPost_ret (results_none rfl _ _ _) rfl ?_
    exact ⟨rfl, hB, Kp.refl _ _⟩
  · rw [hn] at h39
    obtain ⟨i, hi, rfl⟩ := nm_yes hn
    have hc := hB.get (i := i + 1) (by omega)
    have hf := hB.fz (i + 1)
    have hi2 : (i : Int) + 1 < 31 := by omega
    have hi0 : (0 : Int) ≤ (i : Int) + 1 := by omega
    have er : ((i : Int) + 1).toNat = i + 1 := by omega
    have hNi := hN (i + 1)
    rw [er, if_pos rfl, plus_sgl N hN]
    clear er hn
    by_cases ho : N (i + 1) + x ≤ 18446744073709551615
    · have hs := hB.set (i := i + 1) (by omega) (N (i + 1) + x)
      have ew := wrap_sum (N (i + 1)) x hNi hx ho
      have em : min (N (i + 1) + x) 18446744073709551615 = N (i + 1) + x := by omega
      have hk := Kp.setCell w b (i + 1) (.int .u64 ((N (i + 1) + x : Nat) : Int))
      rw [em]
      obtain ⟨s, hse⟩ : ∃ s : Nat, s = N (i + 1) + x := ⟨_, rfl⟩
      rw [← hse] at ew hs hk ⊢
      have d1 : ¬ ((s : Int) < (x : Int)) := by omega
      clear hse em ho
      go_enter Tryd.func33, Tryd.ntmps33
      go_wp2_with (go_at_call 39; (with_reducible refine (h39 _).mono ?_); rintro e w1 ⟨rfl, h1⟩; (have h2 := h1.symm); subst h2)
      go_end0
      exact ⟨rfl, hs, hk⟩
    · have hs := hB.set (i := i + 1) (by omega) 18446744073709551615
      have ew := wrap_over (N (i + 1)) x hNi hx ho
      have em : min (N (i + 1) + x) 18446744073709551615 = 18446744073709551615 := by omega
      have hk := Kp.setCell w b (i + 1) (.int .u64 18446744073709551615)
      rw [em]
      obtain ⟨s, hse⟩ : ∃ s : Nat, s = N (i + 1) + x - 18446744073709551616 := ⟨_, rfl⟩
      rw [← hse] at ew
      have d1 : ((s : Int) < (x : Int)) := by omega
      clear hse em ho
      go_enter Tryd.func33, Tryd.ntmps33
      go_wp2_with (go_at_call 39; (with_reducible refine (h39 _).mono ?_); rintro e w1 ⟨rfl, h1⟩; (have h2 := h1.symm); subst h2)
      go_end0
      exact ⟨rfl, hs, hk⟩
set_option maxRecDepth 100000 in
set_option maxHeartbeats 4000000 in
theorem rreset_35 (b : Nat) (N : Cn) (w : World) (hB : Rb w b N) :
    Calls Tryd.prog 35 #[.pointer (some ⟨b, 0, none⟩)] w fun e w' => e = .returned (.tuple #[]) ∧ Rb w' b (rst N 30) ∧ Kp (· = b) w w' := by
  go_enter Tryd.func35, Tryd.ntmps35
  go_wp2
  go_loopw [2] (fun v wr => ∃ i : Nat, i ≤ 30 ∧ v = .int .i64 ((i : Int) + 1) ∧ Rb wr b (rst N i) ∧ Kp (· = b) w wr) (fun v _ => 32 - (intOf v).toNat)
  case atStart => exact ⟨0, by omega, rfl, by rw [rst_zero]; exact hB, Kp.refl _ _⟩
  case round =>
    obtain ⟨i, hi, rfl, hb, hk⟩ := hrel
    rcases (by omega : i < 30 ∨ i = 30) with hlt | rfl
    · have d1 : (i : Int) + 1 ≤ 30 := by omega
      have hc := hb.get (i := i + 1) (by omega)
      have hfc := hb.fz (i + 1)
      have hi2 : (i : Int) + 1 < 31 := by omega
      have hi0 : (0 : Int) ≤ (i : Int) + 1 := by omega
      have hE : ∀ X : World, (∃ j : Nat, j ≤ 30 ∧ Value.int .i64 ((i : Int) + 1 + 1) = .int .i64 ((j : Int) + 1) ∧ Rb X b (rst N j) ∧ Kp (· = b) w X) ∧ 32 - (intOf (Value.int .i64 ((i : Int) + 1 + 1))).toNat < 32 - (intOf (Value.int .i64 ((i : Int) + 1))).toNat ↔ (Rb X b (rst N (i + 1)) ∧ Kp (· = b) w X) := by
        intro X
        constructor
        · rintro ⟨⟨j, hj, he, h1, h2⟩, _⟩
          have : j = i + 1 := by injection he with _ he; omega
          subst this
          exact ⟨h1, h2⟩
        · rintro ⟨h1, h2⟩
          exact ⟨⟨i + 1, by omega, by simp, h1, h2⟩, by simp only [intOf]; omega⟩
      by_cases hst : i + 1 = 25 ∨ i + 1 = 26 ∨ i + 1 = 28
      · rw [rst_keep N i hst] at hb
        have hb' := hb
        rcases (by omega : i = 24 ∨ i = 25 ∨ i = 27) with rfl | rfl | rfl
        all_goals
          go_wp2
          first
            | exact (hE _).2 ⟨hb', hk⟩
            | (refine ⟨⟨_, by omega, rfl, hb', hk⟩, by simp only [intOf]; omega⟩)
      · have hb2 := hb.set (i := i + 1) (by omega) 0
        rw [rst_set N i hst] at hb2
        have n1 : ¬ ((i : Int) + 1 = 25) := by omega
        have n2 : ¬ ((i : Int) + 1 = 26) := by omega
        have n3 : ¬ ((i : Int) + 1 = 28) := by omega
        clear hst
        go_wp2
        all_goals first | exact (hE _).2 ⟨hb2, hk.then (Kp.setCell _ b (i + 1) _)⟩ | (exfalso; simp_all; done) | (exfalso; omega)
    · go_wp2
      go_end0
      exact ⟨rfl, hb, hk⟩
end Go.Proofs.YtonbkpfnpnlkpaaDoor
