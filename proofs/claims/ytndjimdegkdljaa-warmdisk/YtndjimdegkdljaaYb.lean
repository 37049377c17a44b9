import Derived.Test.YtndjimdegkdljaaT
import Derived.Test.YtndjimdegkdljaaY
import Derived.Test.YtndjimdegkdljaaYa
/-
  The document's Rename and SyncNames.
-/
namespace Go.Proofs.Ytndjimdegkdljaa
open Go.RowKit Go.MapKept
set_option linter.unusedVariables false
set_option linter.unusedSimpArgs false
attribute [local go_sem] Oper.semAt_some

set_option maxRecDepth 100000 in
set_option maxHeartbeats 4000000 in
theorem does_Rn {w : World} {r : Rl} {M : Md} (h : RR w r M) (hsl : Slk w r M) (s t : Bs) (hl : s.length ≤ 9223372036854775807) (hlt : t.length ≤ 9223372036854775807) (hc : M.ch.length < M.acts) :
    Calls Try.prog 80 #[pv r.d, .int .i64 3, sv s, sv t, .slice none 0 0] w fun e w' => e = .returned (.int .i64 (doRn M s t).1) ∧ ∃ r', RR w' r' (doRn M s t).2 ∧ Afr w w' r r' := by
  unfold doRn
  by_cases hs : okN s = true
  · have h73 := legal_73 s hl w
    have h73t := legal_73 t hlt w
    rw [hs] at h73
    by_cases ht : okN t = true
    · rw [if_pos ⟨hs, ht⟩]
      rw [ht] at h73t
      have h74 := at_74 h s
      cases hn : M.names s with
      | none =>
        rw [hn] at h74
        simp only [atI] at h74
        have HR := Lib.hid h
        clear h hsl
        simp only
        go_enter Try.func80, Try.ntmps80
        go_wp2_with (first
          | (go_at_call 73; go_must (first | (with_reducible refine h73.mono ?_) | (with_reducible refine h73t.mono ?_)); rintro e w1 ⟨rfl, hw1⟩; have hw2 := hw1.symm; subst hw2)
          | (go_at_call 74; go_must (refine h74.mono ?_); rintro e w1 ⟨rfl, g1⟩))
        go_ret
        exact ⟨rfl, r, HR.out.gb g1, Afr.of g1⟩
      | some k =>
        rw [hn] at h74
        simp only [atI] at h74
        simp only
        by_cases hst : s = t
        · subst hst
          rw [if_pos rfl]
          have HR := Lib.hid h
          clear h hsl
          go_enter Try.func80, Try.ntmps80
          go_wp2_with (first
            | (go_at_call 73; go_must (first | (with_reducible refine h73.mono ?_) | (with_reducible refine h73t.mono ?_)); rintro e w1 ⟨rfl, hw1⟩; have hw2 := hw1.symm; subst hw2)
            | (go_at_call 74; go_must (refine h74.mono ?_); rintro e w1 ⟨rfl, g1⟩))
          go_ret
          exact ⟨rfl, r, HR.out.gb g1, Afr.of g1⟩
        · rw [if_neg hst]
          have hst' : (s == t) = false := by simpa using hst
          have hl2 : 1 ≤ s.length ∧ s.length ≤ 32 := by simpa [okN] using hs
          have hl3 : 1 ≤ t.length ∧ t.length ≤ 32 := by simpa [okN] using ht
          have hs0 : s ≠ [] := fun e => by rw [e] at hl2; simp at hl2
          have hna := h.ok.na
          have hnc := h.ok.nc
          obtain ⟨t78, T78⟩ := ty78
          have HR := Lib.hid (And.intro h hsl)
          have hbx := h.box
          have hch := h.ch
          have n1 : r.cv.ownBlock ≠ some r.d := fun e => by have := h.cc _ e; rw [h.cd] at this; omega
          obtain ⟨nc, hN⟩ : ∃ nc, M.ch.length = nc := ⟨_, rfl⟩
          rw [hN] at hch hnc
          have HN := Lib.hid hN
          clear h hsl hN
          go_enter Try.func80, Try.ntmps80
          go_upto_region 14 with (first
            | (go_at_call 73; go_must (first | (with_reducible refine h73.mono ?_) | (with_reducible refine h73t.mono ?_)); rintro e w1 ⟨rfl, hw1⟩; have hw2 := hw1.symm; subst hw2)
            | (go_at_call 74; go_must (refine h74.mono ?_); rintro e w1 ⟨rfl, g1⟩))
          have b1 := hbx.kept g1 (by simp)
          have c3 : w1.cell? ⟨r.d, 3, none⟩ = some r.cv := b1.cell 3
          have r1 := row_kept hch g1 (by simp)
          clear h73 h73t h74
          go_wp2_with (at_builtin; go_must (refine pushB T78 rfl _ _ rfl 0 _ nc _ (by rfl) r1 [sv s, sv t, .int .i64 (k : Int)] rfl (rch_one ⟨s, t, k⟩) (by rfl) (by omega) (Nat.zero_le _) ?_); intro g7 c7 w7 hown7 hg7 hat7; have b7 := b1.kept hg7 (fun e => n1 e.symm); have s3 : w7.cell? ⟨r.d, 3, none⟩ = some r.cv := b7.cell 3; have f3 : w7.frozen? ⟨r.d, 3, none⟩ = false := b7.fz 3)
          go_ret
          obtain ⟨h, hsl⟩ := HR.out
          have hdl := h.lt r.d (by rw [h.cd]; decide)
          have hg7d : g7 ≠ r.d := by
            rcases hat7 with e | e
            · exact fun e2 => n1 (by rw [e, e2])
            · have := g1.size; omega
          have gd : w7.grownBy (w7.setCell ⟨r.d, 3, none⟩ (.slice (some ⟨g7, 0, none⟩) (nc + 1) c7)) (some r.d) := gb_setCell (gb_refl _ _) _
          have := h.changed (c := ⟨s, t, k⟩) (cv := .slice (some ⟨g7, 0, none⟩) (nc + 1) c7) hsl hs0 hn hl3.2 hl2.2 hc (b7.set 3 _) (by rw [HN.out]; exact row_kept hown7 gd (fun j hj e => hg7d (by simp [Value.ownBlock] at hj; rw [hj]; exact Option.some.inj e)))
            (((Kp.of g1).step hg7 (fun i hi => .inl (.inr hi))).step gd (fun i hi => .inl (.inl (Option.some.inj hi).symm)))
            (fun b hb => by simp [Value.ownBlock] at hb; subst hb; exact hat7.imp id (fun e => Nat.le_trans g1.size e))
          exact ⟨rfl, _, this⟩
    · rw [if_neg (fun h => ht h.2)]
      have ht' : okN t = false := by simpa using ht
      rw [ht'] at h73t
      have HR := Lib.hid h
      clear h hsl
      simp only
      go_enter Try.func80, Try.ntmps80
      go_wp2_with (go_at_call 73; go_must (first | (with_reducible refine h73.mono ?_) | (with_reducible refine h73t.mono ?_)); rintro e w1 ⟨rfl, hw1⟩; have hw2 := hw1.symm; subst hw2)
      go_ret
      exact ⟨rfl, r, HR.out, Afr.refl _ _⟩
  · rw [if_neg (fun h => hs h.1)]
    refine (does_bad r.d s t _ hl (by simpa using hs) 3 (by decide)).mono ?_
    rintro e w' ⟨rfl, rfl⟩
    exact ⟨rfl, r, h, Afr.refl _ _⟩
def Rl.settle (r : Rl) (v : Value) : Rl := { r with sf := v, cv := .slice none 0 0, col := fun b => if v.ownBlock = some b then 3 else r.col b }
/-- The first n changes are safe: the list L is what they leave. -/
theorem RR.settled {w w' : World} {r : Rl} {M : Md} {n : Nat} {v : Value} {L : List (Bs × Nat)} (h : RR w r M) (hV : NmV w' 0 v L) (hR : Rep L (after M.safe (M.ch.take n))) (hL : L.length ≤ M.acts)
    (hat : ∀ b, v.ownBlock = some b → w.heap.size ≤ b) (hB : Box w' 80 r.d (dkR (r.settle v) (M.settle n))) (hK : Kp (fun b => b = r.d) w w') :
    RR w' (r.settle v) (M.settle n) ∧ Afr w w' r (r.settle v) := by
  have hcl : ∀ b, r.col b ≠ 0 → (r.settle v).col b = r.col b := fun b h0 => by
    show (if v.ownBlock = some b then 3 else r.col b) = _
    rw [if_neg (fun e => by have := hat b e; have := h.lt b h0; omega)]
  have nbk : ∀ b, r.col b ≠ 0 → r.col b ≠ 1 → w'.heap[b]? = w.heap[b]? := fun b h0 h1 => hK.block b (h.lt b h0) (fun e => h1 (by rw [e, h.cd]))
  refine ⟨?_, ?_⟩
  · exact {
      box := hB
      fl := row_same h.fl (fun b hb => nbk b (by rw [h.cf b hb]; decide) (by rw [h.cf b hb]; decide))
      fr := fun k hl => row_same (h.fr k hl) (fun b hb => nbk b (by rw [h.cr k b hl hb]; omega) (by rw [h.cr k b hl hb]; omega))
      sf := ⟨L, hV, hR, by simpa [Md.settle] using hL⟩
      ch := World.ownsRow_nil _ _ _ _
      pl := by
        obtain ⟨P, a1, a2⟩ := h.pl
        exact ⟨P, row_same a1 (fun b hb => nbk b (by rw [h.cp b hb]; decide) (by rw [h.cp b hb]; decide)), a2⟩
      cd := by rw [show (r.settle v).d = r.d from rfl, hcl _ (by rw [h.cd]; decide)]; exact h.cd
      cf := fun b hb => by rw [hcl _ (by rw [h.cf b hb]; decide)]; exact h.cf b hb
      cs := fun b hb => by
        have hb' : v.ownBlock = some b := hb
        show (if v.ownBlock = some b then 3 else r.col b) = 3
        rw [if_pos hb']
      cc := fun b hb => by simp [Rl.settle, Value.ownBlock] at hb
      cp := fun b hb => by rw [hcl _ (by rw [h.cp b hb]; decide)]; exact h.cp b hb
      cr := fun k b hl hb => by rw [hcl _ (by rw [h.cr k b hl hb]; omega)]; exact h.cr k b hl hb
      lt := fun b hb => by
        have hb' : (if v.ownBlock = some b then 3 else r.col b) ≠ 0 := hb
        by_cases e2 : v.ownBlock = some b
        · exact (row_ge hV e2).2
        · rw [if_neg e2] at hb'
          exact Nat.lt_of_lt_of_le (h.lt b hb') hK.size
      ok := h.ok.settle n }
  · refine ⟨hK.mono (fun b hb => .inl ?_), rfl, fun b hl hb => ?_⟩
    · rw [hb, h.cd]; decide
    · have hb' : (if v.ownBlock = some b then 3 else r.col b) ≠ 0 := hb
      rw [if_neg (fun e => by have := hat b e; omega)] at hb'
      exact hb'
set_option maxRecDepth 100000 in
set_option maxHeartbeats 4000000 in
theorem does_Sn {w : World} {r : Rl} {M : Md} (h : RR w r M) :
    Calls Try.prog 80 #[pv r.d, .int .i64 5, sv [], sv [], .slice none 0 0] w fun e w' => e = .returned (.int .i64 0) ∧ ∃ r', RR w' r' (M.settle M.ch.length) ∧ Afr w w' r r' := by
  have h75 := names_75 h
  have HR := Lib.hid h
  have hbx := h.box
  clear h
  go_enter Try.func80, Try.ntmps80
  go_wp2_with (go_at_call 75; go_must (refine h75.mono ?_); rintro e w1 ⟨v, L, rfl, hV, hR, hL, g1⟩; (have b1 := hbx.kept g1 (by simp)); (have c2 : w1.cell? ⟨r.d, 2, none⟩ = some r.sf := b1.cell 2); (have f2 : w1.frozen? ⟨r.d, 2, none⟩ = false := b1.fz 2); (have c3 : w1.cell? ⟨r.d, 3, none⟩ = some r.cv := b1.cell 3); (have f3 : w1.frozen? ⟨r.d, 3, none⟩ = false := b1.fz 3); (have HV := Lib.hid (And.intro hV (And.intro hR (And.intro hL (And.intro g1 b1))))); obtain ⟨va, vc, ev, -⟩ := row_shape hV; subst ev; clear hV hR hL b1 g1 h75)
  go_ret
  obtain ⟨hV, hR, hL, g1, b1⟩ := HV.out
  have h := HR.out
  have hdl := h.lt r.d (by rw [h.cd]; decide)
  have gd : w1.grownBy ((w1.setCell ⟨r.d, 2, none⟩ (.slice va L.length vc)).setCell ⟨r.d, 3, none⟩ (.slice none 0 0)) (some r.d) := gb_setCell (gb_setCell (gb_refl _ _) _) _
  refine ⟨rfl, _, h.settled (n := M.ch.length) (v := .slice va L.length vc) (L := L) (row_base (row_kept hV gd (fun j hj e => by have := (row_ge hV hj).1; rw [Option.some.inj e] at this; omega)) (Nat.zero_le _)) (by rw [List.take_length]; exact hR) hL (fun b hb => (row_ge hV hb).1) ((b1.set 2 _).set 3 _) ((Kp.of g1).step gd (fun i hi => .inl (Option.some.inj hi).symm))⟩
set_option maxRecDepth 100000 in
set_option maxHeartbeats 4000000 in
theorem rrename_35 {w : World} {r : Rl} {M : Md} (h : RR w r M) (ha : M.acts < 100000) (s t : Bs) (hl : s.length ≤ 9223372036854775807) (hlt : t.length ≤ 9223372036854775807) :
    Calls Try.prog 35 #[pv r.d, sv s, sv t] w fun e w' => e = .returned (fltO [114, 101, 110, 97, 109, 101] s (actR M (doRn M.act1 s t)).1) ∧ ∃ r', RR w' r' (actR M (doRn M.act1 s t)).2 ∧ Afr w w' r r' := by
  have hnf := h.ok.nf
  have hnc := h.ok.nc
  have g1 := gb_alloc (gb_refl w none) (.cells #[sv [], sv [], .int .i64 0] 34)
  have B1 := Box.new w 34 #[sv [], sv [], .int .i64 0]
  have h54 := act_54 (h.gb g1) ha 3 (by omega) (by omega) (by omega) s t (.slice none 0 0) (doRn M.act1 s t).1 (M2 := (doRn M.act1 s t).2) (fun W hk hp hsl => does_Rn hp hsl s t hl hlt (Nat.lt_succ_of_le hnc))
  rw [show callN 3 = [114, 101, 110, 97, 109, 101] from rfl] at h54
  have hcz : r.col w.heap.size = 0 := by
    by_cases hz : r.col w.heap.size = 0
    · exact hz
    · have := h.lt _ hz; omega
  have HA := Lib.hid (And.intro (Afr.of (p := r) g1) (And.intro B1 hcz))
  obtain ⟨res, hres⟩ : ∃ res, actR M ((doRn M.act1 s t).1, (doRn M.act1 s t).2) = res := ⟨_, rfl⟩
  rw [hres] at h54
  have hres' : actR M (doRn M.act1 s t) = res := hres
  rw [hres']
  obtain ⟨x, y, z, hf⟩ := fltO_cells [114, 101, 110, 97, 109, 101] s res.1
  rw [hf] at h54 ⊢
  clear h g1 B1 hres hres' hf hcz
  go_enter Try.func35, Try.ntmps35
  go_wp2_with (go_at_call 54; go_must (refine h54.mono ?_); rintro e w1 ⟨rfl, r', hr, hA⟩; (have hB6 := hA.kp.box HA.out.2.1 (fun hc => hc HA.out.2.2)); (have b0 : w1.cell? ⟨w.heap.size, 0, none⟩ = some (sv []) := hB6.cell 0); (have b1 : w1.cell? ⟨w.heap.size, 1, none⟩ = some (sv []) := hB6.cell 1); (have b2 : w1.cell? ⟨w.heap.size, 2, none⟩ = some (.int .i64 0) := hB6.cell 2); (have f0 := hB6.fz 0); (have f1 := hB6.fz 1); (have f2 := hB6.fz 2); (have H6 := Lib.hid (And.intro hr (And.intro hA hB6))); clear hr hA hB6)
  obtain ⟨hr, hA, hB6⟩ := H6.out
  have hB3 : Box (((w1.setCell ⟨w.heap.size, 0, none⟩ (sv x)).setCell ⟨w.heap.size, 1, none⟩ (sv y)).setCell ⟨w.heap.size, 2, none⟩ (.int .i64 z)) 34 w.heap.size #[sv x, sv y, .int .i64 z] := ((hB6.set 0 _).set 1 _).set 2 _
  have g3 : w1.grownBy (((w1.setCell ⟨w.heap.size, 0, none⟩ (sv x)).setCell ⟨w.heap.size, 1, none⟩ (sv y)).setCell ⟨w.heap.size, 2, none⟩ (.int .i64 z)) (some w.heap.size) := gb_setCell (gb_setCell (gb_setCell (gb_refl _ _) _) _) _
  generalize (((w1.setCell ⟨w.heap.size, 0, none⟩ (sv x)).setCell ⟨w.heap.size, 1, none⟩ (sv y)).setCell ⟨w.heap.size, 2, none⟩ (.int .i64 z)) = V at *
  have r0 : V.cell? ⟨w.heap.size, 0, none⟩ = some (sv x) := hB3.cell 0
  have r1 : V.cell? ⟨w.heap.size, 1, none⟩ = some (sv y) := hB3.cell 1
  have r2' : V.cell? ⟨w.heap.size, 2, none⟩ = some (.int .i64 z) := hB3.cell 2
  have hnc : r'.col w.heap.size = 0 := by
    by_cases hz : r'.col w.heap.size = 0
    · exact hz
    · exact absurd HA.out.2.2 (hA.col _ HA.out.2.1.lt hz)
  refine bodyPost_ret (v := .agg #[sv x, sv y, .int .i64 z]) (by simp [results, Try.results35, go_sem, r0, r1, r2']) rfl ⟨rfl, r', ?_, ?_⟩
  · exact hr.keep (fun b hb => g3.block b (hr.lt b hb) (fun e => by rw [Option.some.inj e] at hb; exact hb hnc)) g3.size
  · have hA2 := HA.out.1.trans hA
    exact ⟨hA2.kp.step g3 (fun i hi => .inr (by rw [← Option.some.inj hi]; exact Nat.le_refl _)), hA2.d, hA2.col⟩
set_option maxRecDepth 100000 in
set_option maxHeartbeats 4000000 in
theorem rsyncn_36 {w : World} {r : Rl} {M : Md} (h : RR w r M) (ha : M.acts < 100000)  :
    Calls Try.prog 36 #[pv r.d] w fun e w' => e = .returned (fltO [115, 121, 110, 99, 110, 97, 109, 101, 115] [] (actR M ((0 : Int), M.act1.settle M.ch.length)).1) ∧ ∃ r', RR w' r' (actR M ((0 : Int), M.act1.settle M.ch.length)).2 ∧ Afr w w' r r' := by
  have hnf := h.ok.nf
  have hnc := h.ok.nc
  have g1 := gb_alloc (gb_refl w none) (.cells #[sv [], sv [], .int .i64 0] 34)
  have B1 := Box.new w 34 #[sv [], sv [], .int .i64 0]
  have h54 := act_54 (h.gb g1) ha 5 (by omega) (by omega) (by omega) [] [] (.slice none 0 0) (0 : Int) (M2 := (M.act1.settle M.ch.length)) (fun W hk hp hsl => does_Sn hp)
  rw [show callN 5 = [115, 121, 110, 99, 110, 97, 109, 101, 115] from rfl] at h54
  have hcz : r.col w.heap.size = 0 := by
    by_cases hz : r.col w.heap.size = 0
    · exact hz
    · have := h.lt _ hz; omega
  have HA := Lib.hid (And.intro (Afr.of (p := r) g1) (And.intro B1 hcz))
  obtain ⟨res, hres⟩ : ∃ res, actR M ((0 : Int), (M.act1.settle M.ch.length)) = res := ⟨_, rfl⟩
  rw [hres] at h54
  have hres' : actR M ((0 : Int), M.act1.settle M.ch.length) = res := hres
  rw [hres']
  obtain ⟨x, y, z, hf⟩ := fltO_cells [115, 121, 110, 99, 110, 97, 109, 101, 115] [] res.1
  rw [hf] at h54 ⊢
  clear h g1 B1 hres hres' hf hcz
  go_enter Try.func36, Try.ntmps36
  go_wp2_with (go_at_call 54; go_must (refine h54.mono ?_); rintro e w1 ⟨rfl, r', hr, hA⟩; (have hB6 := hA.kp.box HA.out.2.1 (fun hc => hc HA.out.2.2)); (have b0 : w1.cell? ⟨w.heap.size, 0, none⟩ = some (sv []) := hB6.cell 0); (have b1 : w1.cell? ⟨w.heap.size, 1, none⟩ = some (sv []) := hB6.cell 1); (have b2 : w1.cell? ⟨w.heap.size, 2, none⟩ = some (.int .i64 0) := hB6.cell 2); (have f0 := hB6.fz 0); (have f1 := hB6.fz 1); (have f2 := hB6.fz 2); (have H6 := Lib.hid (And.intro hr (And.intro hA hB6))); clear hr hA hB6)
  obtain ⟨hr, hA, hB6⟩ := H6.out
  have hB3 : Box (((w1.setCell ⟨w.heap.size, 0, none⟩ (sv x)).setCell ⟨w.heap.size, 1, none⟩ (sv y)).setCell ⟨w.heap.size, 2, none⟩ (.int .i64 z)) 34 w.heap.size #[sv x, sv y, .int .i64 z] := ((hB6.set 0 _).set 1 _).set 2 _
  have g3 : w1.grownBy (((w1.setCell ⟨w.heap.size, 0, none⟩ (sv x)).setCell ⟨w.heap.size, 1, none⟩ (sv y)).setCell ⟨w.heap.size, 2, none⟩ (.int .i64 z)) (some w.heap.size) := gb_setCell (gb_setCell (gb_setCell (gb_refl _ _) _) _) _
  generalize (((w1.setCell ⟨w.heap.size, 0, none⟩ (sv x)).setCell ⟨w.heap.size, 1, none⟩ (sv y)).setCell ⟨w.heap.size, 2, none⟩ (.int .i64 z)) = V at *
  have r0 : V.cell? ⟨w.heap.size, 0, none⟩ = some (sv x) := hB3.cell 0
  have r1 : V.cell? ⟨w.heap.size, 1, none⟩ = some (sv y) := hB3.cell 1
  have r2' : V.cell? ⟨w.heap.size, 2, none⟩ = some (.int .i64 z) := hB3.cell 2
  have hnc : r'.col w.heap.size = 0 := by
    by_cases hz : r'.col w.heap.size = 0
    · exact hz
    · exact absurd HA.out.2.2 (hA.col _ HA.out.2.1.lt hz)
  refine bodyPost_ret (v := .agg #[sv x, sv y, .int .i64 z]) (by simp [results, Try.results36, go_sem, r0, r1, r2']) rfl ⟨rfl, r', ?_, ?_⟩
  · exact hr.keep (fun b hb => g3.block b (hr.lt b hb) (fun e => by rw [Option.some.inj e] at hb; exact hb hnc)) g3.size
  · have hA2 := HA.out.1.trans hA
    exact ⟨hA2.kp.step g3 (fun i hi => .inr (by rw [← Option.some.inj hi]; exact Nat.le_refl _)), hA2.d, hA2.col⟩
end Go.Proofs.Ytndjimdegkdljaa
