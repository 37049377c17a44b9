import Derived.Test.YtndjimdegkdljaaMg
/-
  Rename.
-/
namespace Go.Proofs.Ytndjimdegkdljaa
open Go.RowKit Go.MapKept
set_option linter.unusedVariables false
set_option linter.unusedSimpArgs false
attribute [local go_sem] Oper.semAt_some

/-- What Rename answers, and leaves. -/
def doRn (M : Md) (s t : Bs) : Int × Md := if okN s = true ∧ okN t = true then (match M.names s with | some k => (0, if s = t then M else M.chg ⟨s, t, k⟩) | none => (182, M)) else (186, M)
theorem doRn_acts (M : Md) (s t : Bs) : (doRn M s t).2.acts = M.acts := by
  unfold doRn
  split
  · split
    · simp only
      split <;> rfl
    · rfl
  · rfl
set_option maxRecDepth 100000 in
set_option maxHeartbeats 4000000 in
theorem rename_72 {w : World} {p : Pl} {M : Md} (h : RP w p M) (s t : Bs) (hl : s.length ≤ 9223372036854775807) (hlt : t.length ≤ 9223372036854775807) (hc : M.ch.length < M.acts) :
    Calls Try.prog 72 #[pv p.d, sv s, sv t] w fun e w' => e = .returned (.int .i64 (doRn M s t).1) ∧ ∃ p', RP w' p' (doRn M s t).2 ∧ Aft w w' p p' := by
  have h79 := isName_79 t hlt w
  have HR := Lib.hid h
  unfold doRn
  by_cases ht : okN t = true
  · rw [ht] at h79
    by_cases hs : okN s = true
    · rw [if_pos ⟨hs, ht⟩]
      cases hn : M.names s with
      | none =>
        have h56 := find_none h s hl hs hn
        clear h
        simp only
        go_enter Try.func72, Try.ntmps72
        go_wp2_with (first
          | (go_at_call 79; go_must (refine h79.mono ?_); rintro e w1 ⟨rfl, hw1⟩; have hw2 := hw1.symm; subst hw2)
          | (go_at_call 56; go_must (refine h56.mono ?_); rintro e w1 ⟨rfl, hw1⟩; have hw2 := hw1.symm; subst hw2))
        go_ret
        exact ⟨rfl, p, HR.out, Aft.refl _ _⟩
      | some k =>
        have h56 := find_some h s hl hs hn
        have hl2 : 1 ≤ s.length ∧ s.length ≤ 32 := by simpa [okN] using hs
        have hl3 : 1 ≤ t.length ∧ t.length ≤ 32 := by simpa [okN] using ht
        have hs0 : s ≠ [] := fun e => by rw [e] at hl2; simp at hl2
        have h57 := change_rp h ⟨s, t, k⟩ hs0 hn hl3.2 hl2.2 hc
        clear h
        simp only at h57 ⊢
        by_cases hst : s = t
        · subst hst
          rw [if_pos rfl]
          clear h57
          go_enter Try.func72, Try.ntmps72
          go_wp2_with (first
            | (go_at_call 79; go_must (refine h79.mono ?_); rintro e w1 ⟨rfl, hw1⟩; have hw2 := hw1.symm; subst hw2)
            | (go_at_call 56; go_must (refine h56.mono ?_); rintro e w1 ⟨rfl, hw1⟩; have hw2 := hw1.symm; subst hw2))
          go_ret
          exact ⟨rfl, p, HR.out, Aft.refl _ _⟩
        · rw [if_neg hst]
          have hst' : (s == t) = false := by simpa using hst
          go_enter Try.func72, Try.ntmps72
          go_wp2_with (first
            | (go_at_call 79; go_must (refine h79.mono ?_); rintro e w1 ⟨rfl, hw1⟩; have hw2 := hw1.symm; subst hw2)
            | (go_at_call 56; go_must (refine h56.mono ?_); rintro e w1 ⟨rfl, hw1⟩; have hw2 := hw1.symm; subst hw2)
            | (go_at_call 57; go_must (refine h57.mono ?_); rintro e w1 ⟨rfl, hp⟩))
          go_ret
          exact ⟨rfl, hp⟩
    · rw [if_neg (fun h => hs h.1)]
      have h56 := find_no h s hl (by simpa using hs)
      clear h
      simp only
      go_enter Try.func72, Try.ntmps72
      go_wp2_with (first
        | (go_at_call 79; go_must (refine h79.mono ?_); rintro e w1 ⟨rfl, hw1⟩; have hw2 := hw1.symm; subst hw2)
        | (go_at_call 56; go_must (refine h56.mono ?_); rintro e w1 ⟨rfl, hw1⟩; have hw2 := hw1.symm; subst hw2))
      go_ret
      exact ⟨rfl, p, HR.out, Aft.refl _ _⟩
  · rw [if_neg (fun h => ht h.2)]
    have ht' : okN t = false := by simpa using ht
    rw [ht'] at h79
    clear h
    simp only
    go_enter Try.func72, Try.ntmps72
    go_wp2_with (go_at_call 79; go_must (refine h79.mono ?_); rintro e w1 ⟨rfl, hw1⟩; have hw2 := hw1.symm; subst hw2)
    go_ret
    exact ⟨rfl, p, HR.out, Aft.refl _ _⟩
set_option maxRecDepth 100000 in
theorem clo_71 {w : World} {p : Pl} {M : Md} (h : RP w p M) (s t : Bs) (hl : s.length ≤ 9223372036854775807) (hlt : t.length ≤ 9223372036854775807) (hc : M.ch.length < M.acts) {b1 b2 b3 : Nat} (hb1 : Box w 25 b1 #[pv p.d]) (hb2 : Box w 9 b2 #[sv s]) (hb3 : Box w 9 b3 #[sv t]) :
    Calls Try.prog 71 #[pv b1, pv b2, pv b3] w fun e w' => e = .returned (.int .i64 (doRn M s t).1) ∧ ∃ p', RP w' p' (doRn M s t).2 ∧ Aft w w' p p' := by
  have h72 := rename_72 h s t hl hlt hc
  have c1 : w.cell? ⟨b1, 0, none⟩ = some (pv p.d) := hb1.cell 0
  have c2 : w.cell? ⟨b2, 0, none⟩ = some (sv s) := hb2.cell 0
  have c3 : w.cell? ⟨b3, 0, none⟩ = some (sv t) := hb3.cell 0
  clear h hb1 hb2 hb3
  generalize doRn M s t = r at *
  go_enter Try.func71, Try.ntmps71
  go_wp2_with (go_at_call 72; go_must (refine h72.mono ?_); rintro e w1 ⟨rfl, hp⟩)
  go_ret
  exact ⟨rfl, hp⟩
set_option maxRecDepth 100000 in
set_option maxHeartbeats 4000000 in
theorem act_71 {w : World} {p : Pl} {M M2 : Md} (h : RP w p M) (ha : M.acts < 100000) (call name : Bs) (caps : Array Value) (c : Int)
    (hdo : ∀ W, Kp (fun b => b = p.d) w W → RP W p M.act1 → Calls Try.prog 71 caps W fun e w' => e = .returned (.int .i64 c) ∧ ∃ p', RP w' p' M2 ∧ Aft W w' p p') :
    Calls Try.prog 51 #[pv p.d, sv call, sv name, .func (.func 71) #[] caps] w fun e w' => ∃ v, e = .returned v ∧ ErrV w' v call name (actR M (c, M2)).1 ∧ ∃ p', RP w' p' (actR M (c, M2)).2 ∧ Aft w w' p p' := by
  have h62 := begin_62 h ha
  have HR := Lib.hid h
  have HDO := Lib.hid hdo
  clear h hdo
  obtain ⟨f, hf⟩ : ∃ f, fvo (M.plan ((M.acts + 1 : Nat) : Int)) = f := ⟨_, rfl⟩
  unfold actR
  rw [hf] at h62 ⊢
  clear hf
  simp only
  go_enter Try.func51, Try.ntmps51
  go_wp2_with (first
    | (go_at_call 62; go_must (refine h62.mono ?_); rintro e w1 ⟨rfl, hp1, hk1⟩; (have h63 := bear_71 hp1 f caps c (fun W gW => HDO.out W (hk1.step gW (by simp)) (hp1.gb gW))); (have HK1 := Lib.hid hk1); clear hp1 hk1 h62)
    | (go_at_call 63; go_must (refine h63.mono ?_); rintro e w2 ⟨rfl, p2, hp2, ha2⟩; (have h30 := refusal_30 call name (bearR f.kind c M.act1 M2).1 w2); (have HP2 := Lib.hid (And.intro hp2 ha2)); clear hp2 ha2 h63)
    | (go_at_call 30; go_must (refine h30.mono ?_); rintro e w3 ⟨v, rfl, hv, g3⟩; (have HV := Lib.hid (And.intro hv g3)); clear hv g3 h30))
  go_ret
  refine ⟨v, rfl, HV.out.1, p2, HP2.out.1.gb HV.out.2, ((Aft.kp1 HR.out HK1.out).trans HP2.out.2).trans (Aft.of HV.out.2)⟩
set_option maxRecDepth 100000 in
set_option maxHeartbeats 4000000 in
theorem rename_34 {w : World} {p : Pl} {M : Md} (h : RP w p M) (ha : M.acts < 100000) (s t : Bs) (hl : s.length ≤ 9223372036854775807) (hlt : t.length ≤ 9223372036854775807) :
    Calls Try.prog 34 #[pv p.d, sv s, sv t] w fun e w' => ∃ v, e = .returned v ∧ ErrV w' v [114, 101, 110, 97, 109, 101] s (actR M (doRn M.act1 s t)).1 ∧ ∃ p', RP w' p' (actR M (doRn M.act1 s t)).2 ∧ Aft w w' p p' := by
  have hnf := h.ok.nf
  have hnc := h.ok.nc
  have g1 := gb_alloc (gb_refl w none) (.cells #[pv p.d] 25)
  have g2 := gb_alloc g1 (.cells #[sv s] 9)
  have g3 := gb_alloc g2 (.cells #[sv t] 9)
  have B1 : Box (((w.alloc (.cells #[pv p.d] 25)).alloc (.cells #[sv s] 9)).alloc (.cells #[sv t] 9)) 25 w.heap.size #[pv p.d] := ((Box.new w 25 _).kept (gb_alloc (gb_refl _ none) _) (by simp)).kept (gb_alloc (gb_refl _ none) _) (by simp)
  have B2 : Box (((w.alloc (.cells #[pv p.d] 25)).alloc (.cells #[sv s] 9)).alloc (.cells #[sv t] 9)) 9 (w.heap.size + 1) #[sv s] := by
    have := Box.new (w.alloc (.cells #[pv p.d] 25)) 9 #[sv s]
    rw [show (w.alloc (.cells #[pv p.d] 25)).heap.size = w.heap.size + 1 by simp] at this
    exact this.kept (gb_alloc (gb_refl _ none) _) (by simp)
  have B3 : Box (((w.alloc (.cells #[pv p.d] 25)).alloc (.cells #[sv s] 9)).alloc (.cells #[sv t] 9)) 9 (w.heap.size + 1 + 1) #[sv t] := by
    have := Box.new ((w.alloc (.cells #[pv p.d] 25)).alloc (.cells #[sv s] 9)) 9 #[sv t]
    rwa [show ((w.alloc (.cells #[pv p.d] 25)).alloc (.cells #[sv s] 9)).heap.size = w.heap.size + 1 + 1 by simp] at this
  have hlt2 := h.lt p.d (by rw [h.cd]; decide)
  have h51 := act_71 (h.gb g3) ha [114, 101, 110, 97, 109, 101] s #[pv w.heap.size, pv (w.heap.size + 1), pv (w.heap.size + 1 + 1)] (doRn M.act1 s t).1 (M2 := (doRn M.act1 s t).2) (fun W hk hp => clo_71 hp s t hl hlt (Nat.lt_succ_of_le hnc) (hk.box B1 (by omega)) (hk.box B2 (by omega)) (hk.box B3 (by omega)))
  have HA := Lib.hid (Aft.of (p := p) g3)
  clear h g1 g2 g3 B1 B2 B3
  generalize doRn M.act1 s t = r at *
  go_enter Try.func34, Try.ntmps34
  go_wp2_with (go_at_call 51; go_must (refine h51.mono ?_); rintro e w1 ⟨v, rfl, hv, p', hp, hA⟩)
  go_ret
  exact ⟨v, rfl, hv, p', hp, HA.out.trans hA⟩
end Go.Proofs.Ytndjimdegkdljaa
