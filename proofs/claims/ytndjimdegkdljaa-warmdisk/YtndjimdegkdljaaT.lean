import Derived.Test.YtndjimdegkdljaaS
/-
  The document's Create, Remove, Sync.
-/
namespace Go.Proofs.Ytndjimdegkdljaa
open Go.RowKit Go.MapKept
set_option linter.unusedVariables false
set_option linter.unusedSimpArgs false
attribute [local go_sem] Oper.semAt_some

theorem does_C {w : World} {r : Rl} {M : Md} (h : RR w r M) (hsl : Slk w r M) (s : Bs) (hl : s.length ≤ 9223372036854775807) (hf : M.files.length < M.acts) (hc : M.ch.length < M.acts) :
    Calls Try.prog 80 #[pv r.d, .int .i64 0, sv s, sv [], .slice none 0 0] w fun e w' => e = .returned (.int .i64 (doC M s).1) ∧ ∃ r', RR w' r' (doC M s).2 ∧ Afr w w' r r' := by
  unfold doC
  by_cases hs : okN s = true
  · rw [if_pos hs]
    cases hn : M.names s with
    | none => exact does_create h hsl s hs hn hf hc
    | some k =>
      refine (does_there h s [] _ hl hs hn).mono ?_
      rintro e w' ⟨rfl, g⟩
      exact ⟨rfl, r, h.gb g, Afr.of g⟩
  · rw [if_neg hs]
    refine (does_bad r.d s [] _ hl (by simpa using hs) 0 (by decide)).mono ?_
    rintro e w' ⟨rfl, rfl⟩
    exact ⟨rfl, r, h, Afr.refl _ _⟩
theorem does_Rm {w : World} {r : Rl} {M : Md} (h : RR w r M) (hsl : Slk w r M) (s : Bs) (hl : s.length ≤ 9223372036854775807) (hc : M.ch.length < M.acts) :
    Calls Try.prog 80 #[pv r.d, .int .i64 4, sv s, sv [], .slice none 0 0] w fun e w' => e = .returned (.int .i64 (doRm M s).1) ∧ ∃ r', RR w' r' (doRm M s).2 ∧ Afr w w' r r' := by
  unfold doRm
  by_cases hs : okN s = true
  · rw [if_pos hs]
    cases hn : M.names s with
    | some k => exact does_remove h hsl s hs hn hc
    | none =>
      refine (does_none h s [] _ hl hs hn 4 (.inr rfl)).mono ?_
      rintro e w' ⟨rfl, g⟩
      exact ⟨rfl, r, h.gb g, Afr.of g⟩
  · rw [if_neg hs]
    refine (does_bad r.d s [] _ hl (by simpa using hs) 4 (by decide)).mono ?_
    rintro e w' ⟨rfl, rfl⟩
    exact ⟨rfl, r, h, Afr.refl _ _⟩
theorem does_Sy {w : World} {r : Rl} {M : Md} (h : RR w r M) (s : Bs) (hl : s.length ≤ 9223372036854775807) :
    Calls Try.prog 80 #[pv r.d, .int .i64 2, sv s, sv [], .slice none 0 0] w fun e w' => e = .returned (.int .i64 (doSy M s).1) ∧ ∃ r', RR w' r' (doSy M s).2 ∧ Afr w w' r r' := by
  unfold doSy
  by_cases hs : okN s = true
  · rw [if_pos hs]
    cases hn : M.names s with
    | some k => exact does_sync h s hs hn
    | none =>
      refine (does_none h s [] _ hl hs hn 2 (.inl rfl)).mono ?_
      rintro e w' ⟨rfl, g⟩
      exact ⟨rfl, r, h.gb g, Afr.of g⟩
  · rw [if_neg hs]
    refine (does_bad r.d s [] _ hl (by simpa using hs) 2 (by decide)).mono ?_
    rintro e w' ⟨rfl, rfl⟩
    exact ⟨rfl, r, h, Afr.refl _ _⟩
theorem fltO_cells (call s : Bs) (c : Int) : ∃ x y z, fltO call s c = .agg #[sv x, sv y, .int .i64 z] := by
  unfold fltO
  split
  · exact ⟨[], [], 0, rfl⟩
  · exact ⟨call, s, c, rfl⟩
set_option maxRecDepth 100000 in
set_option maxHeartbeats 4000000 in
theorem rcreate_14 {w : World} {r : Rl} {M : Md} (h : RR w r M) (ha : M.acts < 100000) (s : Bs) (hl : s.length ≤ 9223372036854775807) :
    Calls Try.prog 14 #[pv r.d, sv s] w fun e w' => e = .returned (fltO [99, 114, 101, 97, 116, 101] s (actR M (doC M.act1 s)).1) ∧ ∃ r', RR w' r' (actR M (doC M.act1 s)).2 ∧ Afr w w' r r' := by
  have hnf := h.ok.nf
  have hnc := h.ok.nc
  have g1 := gb_alloc (gb_refl w none) (.cells #[sv [], sv [], .int .i64 0] 34)
  have B1 := Box.new w 34 #[sv [], sv [], .int .i64 0]
  have h54 := act_54 (h.gb g1) ha 0 (by omega) (by omega) (by omega) s [] (.slice none 0 0) (doC M.act1 s).1 (M2 := (doC M.act1 s).2) (fun W hk hp hsl => does_C hp hsl s hl (Nat.lt_succ_of_le hnf) (Nat.lt_succ_of_le hnc))
  rw [show callN 0 = [99, 114, 101, 97, 116, 101] from rfl] at h54
  have hcz : r.col w.heap.size = 0 := by
    by_cases hz : r.col w.heap.size = 0
    · exact hz
    · have := h.lt _ hz; omega
  have HA := Lib.hid (And.intro (Afr.of (p := r) g1) (And.intro B1 hcz))
  obtain ⟨res, hres⟩ : ∃ res, actR M ((doC M.act1 s).1, (doC M.act1 s).2) = res := ⟨_, rfl⟩
  rw [hres] at h54
  have hres' : actR M (doC M.act1 s) = res := hres
  rw [hres']
  obtain ⟨x, y, z, hf⟩ := fltO_cells [99, 114, 101, 97, 116, 101] s res.1
  rw [hf] at h54 ⊢
  clear h g1 B1 hres hres' hf hcz
  go_enter Try.func14, Try.ntmps14
  go_wp2_with (go_at_call 54; go_must (refine h54.mono ?_); rintro e w1 ⟨rfl, r', hr, hA⟩; (have hB6 := hA.kp.box HA.out.2.1 (fun hc => hc HA.out.2.2)); (have b0 : w1.cell? ⟨w.heap.size, 0, none⟩ = some (sv []) := hB6.cell 0); (have b1 : w1.cell? ⟨w.heap.size, 1, none⟩ = some (sv []) := hB6.cell 1); (have b2 : w1.cell? ⟨w.heap.size, 2, none⟩ = some (.int .i64 0) := hB6.cell 2); (have f0 := hB6.fz 0); (have f1 := hB6.fz 1); (have f2 := hB6.fz 2); (have H6 := Lib.hid (And.intro hr (And.intro hA hB6))); clear hr hA hB6)
  obtain ⟨hr, hA, hB6⟩ := H6.out
  have hB3 : Box (((w1.setCell ⟨w.heap.size, 0, none⟩ (sv x)).setCell ⟨w.heap.size, 1, none⟩ (sv y)).setCell ⟨w.heap.size, 2, none⟩ (.int .i64 z)) 34 w.heap.size #[sv x, sv y, .int .i64 z] := ((hB6.set 0 _).set 1 _).set 2 _
  have g3 : w1.grownBy (((w1.setCell ⟨w.heap.size, 0, none⟩ (sv x)).setCell ⟨w.heap.size, 1, none⟩ (sv y)).setCell ⟨w.heap.size, 2, none⟩ (.int .i64 z)) (some w.heap.size) := gb_setCell (gb_setCell (gb_setCell (gb_refl _ _) _) _) _
  generalize (((w1.setCell ⟨w.heap.size, 0, none⟩ (sv x)).setCell ⟨w.heap.size, 1, none⟩ (sv y)).setCell ⟨w.heap.size, 2, none⟩ (.int .i64 z)) = V at *
  have r0 : V.cell? ⟨w.heap.size, 0, none⟩ = some (sv x) := hB3.cell 0
  have r1 : V.cell? ⟨w.heap.size, 1, none⟩ = some (sv y) := hB3.cell 1
  have r2' : V.cell? ⟨w.heap.size, 2, none⟩ = some (.int .i64 z) := hB3.cell 2
  have hnc : r'.col w.heap.size = 0 := by
    by_cases hz : r'.col w.heap.size = 0
    · exact hz
    · exact absurd HA.out.2.2 (hA.col _ HA.out.2.1.lt hz)
  refine bodyPost_ret (v := .agg #[sv x, sv y, .int .i64 z]) (by simp [results, Try.results14, go_sem, r0, r1, r2']) rfl ⟨rfl, r', ?_, ?_⟩
  · exact hr.keep (fun b hb => g3.block b (hr.lt b hb) (fun e => by rw [Option.some.inj e] at hb; exact hb hnc)) g3.size
  · have hA2 := HA.out.1.trans hA
    exact ⟨hA2.kp.step g3 (fun i hi => .inr (by rw [← Option.some.inj hi]; exact Nat.le_refl _)), hA2.d, hA2.col⟩
set_option maxRecDepth 100000 in
set_option maxHeartbeats 4000000 in
theorem rremove_16 {w : World} {r : Rl} {M : Md} (h : RR w r M) (ha : M.acts < 100000) (s : Bs) (hl : s.length ≤ 9223372036854775807) :
    Calls Try.prog 16 #[pv r.d, sv s] w fun e w' => e = .returned (fltO [114, 101, 109, 111, 118, 101] s (actR M (doRm M.act1 s)).1) ∧ ∃ r', RR w' r' (actR M (doRm M.act1 s)).2 ∧ Afr w w' r r' := by
  have hnf := h.ok.nf
  have hnc := h.ok.nc
  have g1 := gb_alloc (gb_refl w none) (.cells #[sv [], sv [], .int .i64 0] 34)
  have B1 := Box.new w 34 #[sv [], sv [], .int .i64 0]
  have h54 := act_54 (h.gb g1) ha 4 (by omega) (by omega) (by omega) s [] (.slice none 0 0) (doRm M.act1 s).1 (M2 := (doRm M.act1 s).2) (fun W hk hp hsl => does_Rm hp hsl s hl (Nat.lt_succ_of_le hnc))
  rw [show callN 4 = [114, 101, 109, 111, 118, 101] from rfl] at h54
  have hcz : r.col w.heap.size = 0 := by
    by_cases hz : r.col w.heap.size = 0
    · exact hz
    · have := h.lt _ hz; omega
  have HA := Lib.hid (And.intro (Afr.of (p := r) g1) (And.intro B1 hcz))
  obtain ⟨res, hres⟩ : ∃ res, actR M ((doRm M.act1 s).1, (doRm M.act1 s).2) = res := ⟨_, rfl⟩
  rw [hres] at h54
  have hres' : actR M (doRm M.act1 s) = res := hres
  rw [hres']
  obtain ⟨x, y, z, hf⟩ := fltO_cells [114, 101, 109, 111, 118, 101] s res.1
  rw [hf] at h54 ⊢
  clear h g1 B1 hres hres' hf hcz
  go_enter Try.func16, Try.ntmps16
  go_wp2_with (go_at_call 54; go_must (refine h54.mono ?_); rintro e w1 ⟨rfl, r', hr, hA⟩; (have hB6 := hA.kp.box HA.out.2.1 (fun hc => hc HA.out.2.2)); (have b0 : w1.cell? ⟨w.heap.size, 0, none⟩ = some (sv []) := hB6.cell 0); (have b1 : w1.cell? ⟨w.heap.size, 1, none⟩ = some (sv []) := hB6.cell 1); (have b2 : w1.cell? ⟨w.heap.size, 2, none⟩ = some (.int .i64 0) := hB6.cell 2); (have f0 := hB6.fz 0); (have f1 := hB6.fz 1); (have f2 := hB6.fz 2); (have H6 := Lib.hid (And.intro hr (And.intro hA hB6))); clear hr hA hB6)
  obtain ⟨hr, hA, hB6⟩ := H6.out
  have hB3 : Box (((w1.setCell ⟨w.heap.size, 0, none⟩ (sv x)).setCell ⟨w.heap.size, 1, none⟩ (sv y)).setCell ⟨w.heap.size, 2, none⟩ (.int .i64 z)) 34 w.heap.size #[sv x, sv y, .int .i64 z] := ((hB6.set 0 _).set 1 _).set 2 _
  have g3 : w1.grownBy (((w1.setCell ⟨w.heap.size, 0, none⟩ (sv x)).setCell ⟨w.heap.size, 1, none⟩ (sv y)).setCell ⟨w.heap.size, 2, none⟩ (.int .i64 z)) (some w.heap.size) := gb_setCell (gb_setCell (gb_setCell (gb_refl _ _) _) _) _
  generalize (((w1.setCell ⟨w.heap.size, 0, none⟩ (sv x)).setCell ⟨w.heap.size, 1, none⟩ (sv y)).setCell ⟨w.heap.size, 2, none⟩ (.int .i64 z)) = V at *
  have r0 : V.cell? ⟨w.heap.size, 0, none⟩ = some (sv x) := hB3.cell 0
  have r1 : V.cell? ⟨w.heap.size, 1, none⟩ = some (sv y) := hB3.cell 1
  have r2' : V.cell? ⟨w.heap.size, 2, none⟩ = some (.int .i64 z) := hB3.cell 2
  have hnc : r'.col w.heap.size = 0 := by
    by_cases hz : r'.col w.heap.size = 0
    · exact hz
    · exact absurd HA.out.2.2 (hA.col _ HA.out.2.1.lt hz)
  refine bodyPost_ret (v := .agg #[sv x, sv y, .int .i64 z]) (by simp [results, Try.results16, go_sem, r0, r1, r2']) rfl ⟨rfl, r', ?_, ?_⟩
  · exact hr.keep (fun b hb => g3.block b (hr.lt b hb) (fun e => by rw [Option.some.inj e] at hb; exact hb hnc)) g3.size
  · have hA2 := HA.out.1.trans hA
    exact ⟨hA2.kp.step g3 (fun i hi => .inr (by rw [← Option.some.inj hi]; exact Nat.le_refl _)), hA2.d, hA2.col⟩
set_option maxRecDepth 100000 in
set_option maxHeartbeats 4000000 in
theorem rsync_18 {w : World} {r : Rl} {M : Md} (h : RR w r M) (ha : M.acts < 100000) (s : Bs) (hl : s.length ≤ 9223372036854775807) :
    Calls Try.prog 18 #[pv r.d, sv s] w fun e w' => e = .returned (fltO [115, 121, 110, 99] s (actR M (doSy M.act1 s)).1) ∧ ∃ r', RR w' r' (actR M (doSy M.act1 s)).2 ∧ Afr w w' r r' := by
  have hnf := h.ok.nf
  have hnc := h.ok.nc
  have g1 := gb_alloc (gb_refl w none) (.cells #[sv [], sv [], .int .i64 0] 34)
  have B1 := Box.new w 34 #[sv [], sv [], .int .i64 0]
  have h54 := act_54 (h.gb g1) ha 2 (by omega) (by omega) (by omega) s [] (.slice none 0 0) (doSy M.act1 s).1 (M2 := (doSy M.act1 s).2) (fun W hk hp hsl => does_Sy hp s hl)
  rw [show callN 2 = [115, 121, 110, 99] from rfl] at h54
  have hcz : r.col w.heap.size = 0 := by
    by_cases hz : r.col w.heap.size = 0
    · exact hz
    · have := h.lt _ hz; omega
  have HA := Lib.hid (And.intro (Afr.of (p := r) g1) (And.intro B1 hcz))
  obtain ⟨res, hres⟩ : ∃ res, actR M ((doSy M.act1 s).1, (doSy M.act1 s).2) = res := ⟨_, rfl⟩
  rw [hres] at h54
  have hres' : actR M (doSy M.act1 s) = res := hres
  rw [hres']
  obtain ⟨x, y, z, hf⟩ := fltO_cells [115, 121, 110, 99] s res.1
  rw [hf] at h54 ⊢
  clear h g1 B1 hres hres' hf hcz
  go_enter Try.func18, Try.ntmps18
  go_wp2_with (go_at_call 54; go_must (refine h54.mono ?_); rintro e w1 ⟨rfl, r', hr, hA⟩; (have hB6 := hA.kp.box HA.out.2.1 (fun hc => hc HA.out.2.2)); (have b0 : w1.cell? ⟨w.heap.size, 0, none⟩ = some (sv []) := hB6.cell 0); (have b1 : w1.cell? ⟨w.heap.size, 1, none⟩ = some (sv []) := hB6.cell 1); (have b2 : w1.cell? ⟨w.heap.size, 2, none⟩ = some (.int .i64 0) := hB6.cell 2); (have f0 := hB6.fz 0); (have f1 := hB6.fz 1); (have f2 := hB6.fz 2); (have H6 := Lib.hid (And.intro hr (And.intro hA hB6))); clear hr hA hB6)
  obtain ⟨hr, hA, hB6⟩ := H6.out
  have hB3 : Box (((w1.setCell ⟨w.heap.size, 0, none⟩ (sv x)).setCell ⟨w.heap.size, 1, none⟩ (sv y)).setCell ⟨w.heap.size, 2, none⟩ (.int .i64 z)) 34 w.heap.size #[sv x, sv y, .int .i64 z] := ((hB6.set 0 _).set 1 _).set 2 _
  have g3 : w1.grownBy (((w1.setCell ⟨w.heap.size, 0, none⟩ (sv x)).setCell ⟨w.heap.size, 1, none⟩ (sv y)).setCell ⟨w.heap.size, 2, none⟩ (.int .i64 z)) (some w.heap.size) := gb_setCell (gb_setCell (gb_setCell (gb_refl _ _) _) _) _
  generalize (((w1.setCell ⟨w.heap.size, 0, none⟩ (sv x)).setCell ⟨w.heap.size, 1, none⟩ (sv y)).setCell ⟨w.heap.size, 2, none⟩ (.int .i64 z)) = V at *
  have r0 : V.cell? ⟨w.heap.size, 0, none⟩ = some (sv x) := hB3.cell 0
  have r1 : V.cell? ⟨w.heap.size, 1, none⟩ = some (sv y) := hB3.cell 1
  have r2' : V.cell? ⟨w.heap.size, 2, none⟩ = some (.int .i64 z) := hB3.cell 2
  have hnc : r'.col w.heap.size = 0 := by
    by_cases hz : r'.col w.heap.size = 0
    · exact hz
    · exact absurd HA.out.2.2 (hA.col _ HA.out.2.1.lt hz)
  refine bodyPost_ret (v := .agg #[sv x, sv y, .int .i64 z]) (by simp [results, Try.results18, go_sem, r0, r1, r2']) rfl ⟨rfl, r', ?_, ?_⟩
  · exact hr.keep (fun b hb => g3.block b (hr.lt b hb) (fun e => by rw [Option.some.inj e] at hb; exact hb hnc)) g3.size
  · have hA2 := HA.out.1.trans hA
    exact ⟨hA2.kp.step g3 (fun i hi => .inr (by rw [← Option.some.inj hi]; exact Nat.le_refl _)), hA2.d, hA2.col⟩
end Go.Proofs.Ytndjimdegkdljaa
