import Derived.Test.YtndjimdegkdljaaYg
/-
  The document's Append.
-/
namespace Go.Proofs.Ytndjimdegkdljaa
open Go.RowKit Go.MapKept
set_option linter.unusedVariables false
set_option linter.unusedSimpArgs false
attribute [local go_sem] Oper.semAt_some

theorem does_none1 {w : World} {r : Rl} {M : Md} (h : RR w r M) (s nw : Bs) (p : Value) (hl : s.length ≤ 9223372036854775807) (hs : okN s = true) (hn : M.names s = none) :
    Calls Try.prog 80 #[pv r.d, .int .i64 1, sv s, sv nw, p] w fun e w' => e = .returned (.int .i64 182) ∧ w.grownBy w' none := by
  have h73 := legal_73 s hl w
  rw [hs] at h73
  have h74 := at_74 h s
  rw [hn] at h74
  simp only [atI] at h74
  clear h
  go_enter Try.func80, Try.ntmps80
  go_wp2_with (first
    | (go_at_call 73; go_must (refine h73.mono ?_); rintro e w1 ⟨rfl, hw1⟩; have hw2 := hw1.symm; subst hw2)
    | (go_at_call 74; go_must (refine h74.mono ?_); rintro e w1 ⟨rfl, g1⟩))
  go_ret
  exact ⟨rfl, g1⟩
theorem does_Ap {w : World} {r : Rl} {M : Md} (h : RR w r M) (s : Bs) (hl : s.length ≤ 9223372036854775807) {L : List (Bs × Nat)} (hL : Rep L M.names) (hsm : sumL M L ≤ 1000000000000)
    {bv : Value} {b : Bs} (hb : Hin w r.col bv b.length 1 (b.map b8)) (rm : Nat) (hrm : (rm : Int) = max (M.space - (sumL M L : Int)) 0) (hbd : ∀ k, (M.file k).1.length + b.length ≤ M.acts * 2097152) (hbd2 : ∀ k, (M.file k).1.length + b.length ≤ 1000000000) :
    Calls Try.prog 80 #[pv r.d, .int .i64 1, sv s, sv [], bv] w fun e w' => e = .returned (.int .i64 (doAp M rm s b).1) ∧ ∃ r', RR w' r' (doAp M rm s b).2 ∧ Afr w w' r r' := by
  unfold doAp
  by_cases hs : okN s = true
  · rw [if_pos hs]
    cases hn : M.names s with
    | some k => exact does_append h s hs hn hL hsm hb rm hrm (hbd k) (hbd2 k)
    | none =>
      refine (does_none1 h s [] _ hl hs hn).mono ?_
      rintro e w' ⟨rfl, g⟩
      exact ⟨rfl, r, h.gb g, Afr.of g⟩
  · rw [if_neg hs]
    refine (does_bad r.d s [] _ hl (by simpa using hs) 1 (by decide)).mono ?_
    rintro e w' ⟨rfl, rfl⟩
    exact ⟨rfl, r, h, Afr.refl _ _⟩
/-- How many bytes a fault leaves of n. -/
def cutP (M : Md) (n : Nat) : Nat := (btw (fvo (M.plan ((M.acts + 1 : Nat) : Int))).part (n : Int)).toNat
theorem cutP_eq (M : Md) (n : Nat) : btw (fvo (M.plan ((M.acts + 1 : Nat) : Int))).part (n : Int) = ((cutP M n : Nat) : Int) := by
  have := btw_in (fvo (M.plan ((M.acts + 1 : Nat) : Int))).part (n : Int) (by omega)
  unfold cutP
  omega
theorem cutP_le (M : Md) (n : Nat) : cutP M n ≤ n := by
  have := btw_in (fvo (M.plan ((M.acts + 1 : Nat) : Int))).part (n : Int) (by omega)
  unfold cutP
  omega
/-- Append, whatever fault bears on it. -/
def apX (M : Md) (rm : Nat) (s b : Bs) : Int × Md := apR M (doAp M.act1 rm s b) (doAp M.act1 rm s (b.take (cutP M b.length)))
theorem act1_bd {M : Md} (h : M.Ok) {n : Nat} (hn : n ≤ 2097152) (k : Nat) : (M.act1.file k).1.length + n ≤ M.act1.acts * 2097152 := by
  have : (M.file k).1.length ≤ M.acts * 2097152 := by
    by_cases hk : k < M.files.length
    · exact h.nb _ (List.mem_of_getElem? (file_some hk))
    · unfold Md.file
      rw [List.getElem?_eq_none (by omega)]
      simp
  show (M.file k).1.length + n ≤ (M.acts + 1) * 2097152
  omega
theorem ract_1 {w : World} {r : Rl} {M : Md} (h : RR w r M) (ha : M.acts < 100000) (s : Bs) (hl : s.length ≤ 9223372036854775807) {L : List (Bs × Nat)} (hL : Rep L M.names) (hsm : sumL M L ≤ 1000000000000)
    {bv : Value} {b : Bs} (hb : Hin w r.col bv b.length 1 (b.map b8)) (rm : Nat) (hrm : (rm : Int) = max (M.space - (sumL M L : Int)) 0) (hbd : b.length ≤ 2097152) (hbd2 : ∀ k, (M.file k).1.length + b.length ≤ 1000000000) :
    Calls Try.prog 54 #[pv r.d, .int .i64 1, sv s, sv [], bv] w fun e w' => e = .returned (fltO [97, 112, 112, 101, 110, 100] s (apX M rm s b).1) ∧ ∃ r', RR w' r' (apX M rm s b).2 ∧ Afr w w' r r' := by
  obtain ⟨_, pao, pcp, ep, hpc, hpm, _⟩ := id hb
  subst ep
  have hc3 := cutP_le M b.length
  have hlen : (b.take (cutP M b.length)).length = cutP M b.length := by rw [List.length_take]; omega
  have hbt := hb.take hc3
  rw [Nat.mul_one, ← List.map_take] at hbt
  refine act_54a h ha s pao b.length pcp (cutP M b.length) hpc hpm (doAp M.act1 rm s b).1 (doAp M.act1 rm s (b.take (cutP M b.length))).1 (cutP_eq M b.length) (M2 := (doAp M.act1 rm s b).2) (M3 := (doAp M.act1 rm s (b.take (cutP M b.length))).2) (fun W hk hr => ?_) (fun W hk hr => ?_)
  · exact does_Ap hr s hl (L := L) hL hsm (hb.kp hk (fun x hx => by rw [hx, h.cd]; decide)) rm hrm (act1_bd h.ok hbd) hbd2
  · refine does_Ap hr s hl (L := L) hL hsm ?_ rm hrm (act1_bd h.ok (by rw [hlen]; omega)) (fun k => by have := hbd2 k; rw [hlen]; show (M.file k).1.length + _ ≤ _; omega)
    rw [hlen]
    exact hbt.kp hk (fun x hx => by rw [hx, h.cd]; decide)
set_option maxRecDepth 100000 in
set_option maxHeartbeats 4000000 in
theorem rappend_33 {w : World} {r : Rl} {M : Md} (h : RR w r M) (ha : M.acts < 100000) (s : Bs) (hl : s.length ≤ 9223372036854775807) {L : List (Bs × Nat)} (hL : Rep L M.names) (hsm : sumL M L ≤ 1000000000000)
    {bv : Value} {b : Bs} (hb : Hin w r.col bv b.length 1 (b.map b8)) (rm : Nat) (hrm : (rm : Int) = max (M.space - (sumL M L : Int)) 0) (hbd : b.length ≤ 2097152) (hbd2 : ∀ k, (M.file k).1.length + b.length ≤ 1000000000) :
    Calls Try.prog 33 #[pv r.d, sv s, bv] w fun e w' => e = .returned (fltO [97, 112, 112, 101, 110, 100] s (apX M rm s b).1) ∧ ∃ r', RR w' r' (apX M rm s b).2 ∧ Afr w w' r r' := by
  have hnf := h.ok.nf
  have hnc := h.ok.nc
  have g1 := gb_alloc (gb_refl w none) (.cells #[sv [], sv [], .int .i64 0] 34)
  have B1 := Box.new w 34 #[sv [], sv [], .int .i64 0]
  have h54 := ract_1 (h.gb g1) ha s hl hL hsm (hb.gb g1) rm hrm hbd hbd2
  have hcz : r.col w.heap.size = 0 := by
    by_cases hz : r.col w.heap.size = 0
    · exact hz
    · have := h.lt _ hz; omega
  have HA := Lib.hid (And.intro (Afr.of (p := r) g1) (And.intro B1 hcz))
  obtain ⟨res, hres⟩ : ∃ res, apX M rm s b = res := ⟨_, rfl⟩
  rw [hres] at h54 ⊢
  obtain ⟨x, y, z, hf⟩ := fltO_cells [97, 112, 112, 101, 110, 100] s res.1
  rw [hf] at h54 ⊢
  obtain ⟨_, pao, pcp, ep, _⟩ := id hb
  subst ep
  clear h g1 B1 hres hf hcz hb
  go_enter Try.func33, Try.ntmps33
  go_wp2_with (go_at_call 54; go_must (refine h54.mono ?_); rintro e w1 ⟨rfl, r', hr, hA⟩; (have hB6 := hA.kp.box HA.out.2.1 (fun hc => hc HA.out.2.2)); (have b0 : w1.cell? ⟨w.heap.size, 0, none⟩ = some (sv []) := hB6.cell 0); (have b1 : w1.cell? ⟨w.heap.size, 1, none⟩ = some (sv []) := hB6.cell 1); (have b2 : w1.cell? ⟨w.heap.size, 2, none⟩ = some (.int .i64 0) := hB6.cell 2); (have f0 := hB6.fz 0); (have f1 := hB6.fz 1); (have f2 := hB6.fz 2); (have H6 := Lib.hid (And.intro hr (And.intro hA hB6))); clear hr hA hB6)
  obtain ⟨hr, hA, hB6⟩ := H6.out
  have hB3 : Box (((w1.setCell ⟨w.heap.size, 0, none⟩ (sv x)).setCell ⟨w.heap.size, 1, none⟩ (sv y)).setCell ⟨w.heap.size, 2, none⟩ (.int .i64 z)) 34 w.heap.size #[sv x, sv y, .int .i64 z] := ((hB6.set 0 _).set 1 _).set 2 _
  have g3 : w1.grownBy (((w1.setCell ⟨w.heap.size, 0, none⟩ (sv x)).setCell ⟨w.heap.size, 1, none⟩ (sv y)).setCell ⟨w.heap.size, 2, none⟩ (.int .i64 z)) (some w.heap.size) := gb_setCell (gb_setCell (gb_setCell (gb_refl _ _) _) _) _
  generalize (((w1.setCell ⟨w.heap.size, 0, none⟩ (sv x)).setCell ⟨w.heap.size, 1, none⟩ (sv y)).setCell ⟨w.heap.size, 2, none⟩ (.int .i64 z)) = V at *
  have r0 : V.cell? ⟨w.heap.size, 0, none⟩ = some (sv x) := hB3.cell 0
  have r1 : V.cell? ⟨w.heap.size, 1, none⟩ = some (sv y) := hB3.cell 1
  have r2' : V.cell? ⟨w.heap.size, 2, none⟩ = some (.int .i64 z) := hB3.cell 2
  have hnc : r'.col w.heap.size = 0 := by
    by_cases hz : r'.col w.heap.size = 0
    · exact hz
    · exact absurd HA.out.2.2 (hA.col _ HA.out.2.1.lt hz)
  refine bodyPost_ret (v := .agg #[sv x, sv y, .int .i64 z]) (by simp [results, Try.results33, go_sem, r0, r1, r2']) rfl ⟨rfl, r', ?_, ?_⟩
  · exact hr.keep (fun b hb => g3.block b (hr.lt b hb) (fun e => by rw [Option.some.inj e] at hb; exact hb hnc)) g3.size
  · have hA2 := HA.out.1.trans hA
    exact ⟨hA2.kp.step g3 (fun i hi => .inr (by rw [← Option.some.inj hi]; exact Nat.le_refl _)), hA2.d, hA2.col⟩
end Go.Proofs.Ytndjimdegkdljaa
