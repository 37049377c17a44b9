import Derived.Test.YtjkdflnnpdionaaGreatMz
/-
  Two Worlds side by side; QueueApart.
-/
namespace Go.Proofs.YtjkdflnnpdionaaGreat
open Go.RowKit
set_option linter.unusedVariables false

section
variable {w : World} {P P' G : Nat → Prop} {wb N : Nat} {D : Wd} {lsb : Nat} {vs : Nat → Value} {Y : Nat → List Nat} {cl : Nat → Nat} {S : Lm}
theorem MS9.keptK {w' : World} (h : MS9 w P wb D lsb vs Y) (hK : Kp G w w') (hn : ∀ k, k < w.heap.size → P k → ¬ G k) (hP' : ∀ k, k < w.heap.size → P k → P' k) : MS9 w' P' wb D lsb vs Y :=
  ⟨h.ms.kept hK (fun k hk hp => hn k hk hp.1) (fun k hk hp => ⟨hP' k hk hp.1, hp.2⟩), h.lsv, h.rl.kept hK (fun k hR => hn k (h.rl.lt k hR) (h.pr k hR)), fun k hR => hP' k (h.rl.lt k hR) (h.pr k hR)⟩
theorem GS.keptK {w' : World} {D0 : Wd} (h : GS w P wb N D0) (hK : Kp G w w') (hn : ∀ k, k < w.heap.size → P k → ¬ G k) (hP' : ∀ k, k < w.heap.size → P k → P' k) : GS w' P' wb N D0 := by
  obtain ⟨D, lsb, vs, Y, S, cl, hs, hW, hd⟩ := h
  exact ⟨D, lsb, vs, Y, S, cl, hs, ⟨hW.ms.keptK hK hn hP', hW.gx, hW.nN, hW.sub, hW.zl, hW.nd, hW.tb⟩, hd⟩
end
/-- Two Worlds with nothing in common. -/
def Two (w0 w : World) (wb xb N M : Nat) (E F : Wd) : Prop := w0.grownBy w none ∧ ∃ P Q : Nat → Prop, GS w P wb N E ∧ GS w Q xb M F ∧ (∀ k, w.heap.size ≤ k → P k ∧ Q k) ∧ (∀ k, k < w.heap.size → P k → ¬ Q k) ∧ ∀ k, P k ∨ Q k → w0.heap.size ≤ k
section
variable {w0 w : World} {wb xb N M : Nat} {E F : Wd}
theorem Two.gr (h : Two w0 w wb xb N M E F) : w0.grownBy w none := by
  obtain ⟨hg, _⟩ := h
  exact hg
theorem Two.symm (h : Two w0 w wb xb N M E F) : Two w0 w xb wb M N F E := by
  obtain ⟨hg, P, Q, h1, h2, h3, h4, h5⟩ := h
  exact ⟨hg, Q, P, h2, h1, fun k hk => ⟨(h3 k hk).2, (h3 k hk).1⟩, fun k hk hq hp => h4 k hk hp hq, fun k hk => h5 k hk.symm⟩
theorem Two.up {N' M' : Nat} (h : Two w0 w wb xb N M E F) (h1 : N ≤ N') (h2 : N' ≤ 300) (h3 : M ≤ M') (h4 : M' ≤ 300) : Two w0 w wb xb N' M' E F := by
  obtain ⟨hg, P, Q, g1, g2, g⟩ := h
  exact ⟨hg, P, Q, g1.up h1 h2, g2.up h3 h4, g⟩
theorem Two.kept0 {w' : World} (h : Two w0 w wb xb N M E F) (hf : w.grownBy w' none) : Two w0 w' wb xb N M E F := by
  obtain ⟨hg, P, Q, h1, h2, h3, h4, h5⟩ := h
  refine ⟨gb_trans hg hf, fun k => P k ∧ (k < w.heap.size ∨ w'.heap.size ≤ k), Q, (h1.less (fun k hk hp => ⟨hp, .inl hk⟩)).kept0 hf, h2.kept0 hf, fun k hk => ⟨⟨(h3 k (Nat.le_trans hf.size hk)).1, .inr hk⟩, (h3 k (Nat.le_trans hf.size hk)).2⟩, fun k hk hp hq => ?_, fun k hk => h5 k (hk.imp (fun h => h.1) id)⟩
  rcases hp.2 with hk2 | hk2
  · exact h4 k hk2 hp.1 hq
  · omega
theorem Two.does (h : Two w0 w wb xb N M E F) (hN : N < 255) (o : Opv) (hh : o.h < 18446744073709551616) :
    Calls Tryz.prog 13 #[.pointer (some ⟨wb, 0, none⟩), .agg o.cs] w fun y w' => y = .returned (.bool true) ∧ Hid (Two w0 w' wb xb (N + 1) M E F) := by
  obtain ⟨hg, P, Q, h1, h2, h3, h4, h5⟩ := h
  refine (does_13 h1 (fun k hk => (h3 k hk).1) hN o hh).mono ?_
  rintro y w' ⟨rfl, hK, hG⟩
  refine ⟨rfl, kp_grown hg (hK.less (fun k hk => h5 k (.inl hk))), P, fun k => (Q k ∧ k < w.heap.size) ∨ w'.heap.size ≤ k, hG, h2.keptK hK (fun k hk hq hp => h4 k hk hp hq) (fun k hk hq => .inl ⟨hq, hk⟩), fun k hk => ⟨(h3 k (Nat.le_trans hK.size hk)).1, .inr hk⟩, fun k hk hp hq => ?_, fun k hk => ?_⟩
  · rcases hq with hq | hq
    · exact h4 k hq.2 hp hq.1
    · omega
  · rcases hk with hk | hk | hk
    · exact h5 k (.inl hk)
    · exact h5 k (.inr hk.1)
    · exact Nat.le_trans hg.size (Nat.le_trans hK.size hk)
theorem two_new {w1 w2 : World} (hf1 : w.grownBy w1 none) (h1 : GS w1 (fun k => w.heap.size ≤ k) wb N E) (hf2 : w1.grownBy w2 none) (h2 : GS w2 (fun k => w1.heap.size ≤ k) xb M F) : Two w w2 wb xb N M E F := by
  refine ⟨gb_trans hf1 hf2, fun k => (w.heap.size ≤ k ∧ k < w1.heap.size) ∨ w2.heap.size ≤ k, fun k => w1.heap.size ≤ k, (h1.less (fun k hk hp => .inl ⟨hp, hk⟩)).kept0 hf2, h2, fun k hk => ⟨.inr hk, Nat.le_trans hf2.size hk⟩, fun k hk hp hq => ?_, fun k hk => ?_⟩
  · rcases hp with hp | hp <;> omega
  · have := hf1.size
    have := hf2.size
    rcases hk with (hk | hk) | hk <;> omega
theorem Two.ends (h : Two w0 w wb xb N M E F) : Calls Tryz.prog 15 #[.pointer (some ⟨wb, 0, none⟩)] w fun y w' => y = .returned (.bool true) ∧ Hid (Two w0 w' wb xb N M E F) := by
  obtain ⟨hg, P, Q, h1, h2, h3, h4, h5⟩ := h
  refine (ends_15 h1).mono ?_
  rintro y w' ⟨rfl, hf⟩
  exact ⟨rfl, Two.kept0 ⟨hg, P, Q, h1, h2, h3, h4, h5⟩ hf⟩
end

set_option maxRecDepth 100000 in
set_option maxHeartbeats 4000000 in
theorem queueApart_any {w : World} {a b : Option Addr} {n c m d : Nat} (hO : OpsIn w a n) (hn : n ≤ maxLen) (hO2 : OpsIn w b m) (hm : m ≤ maxLen) :
    Calls Tryz.prog 7 #[.slice a n c, .slice b m d] w fun y w' => y = .returned (.bool true) ∧ w.grownBy w' none := by
  have hbg := (begun_gs w).mono (R' := fun y w1 => ∃ wb E, y = .returned (.pointer (some ⟨wb, 0, none⟩)) ∧ Hid (w.grownBy w1 none ∧ GS w1 (fun k => w.heap.size ≤ k) wb 0 E)) (by
    rintro y w1 ⟨wb, E, rfl, hf, hG⟩
    exact ⟨wb, E, rfl, hf, hG⟩)
  have hbg2 := fun w1 wb E (hE : Hid (w.grownBy w1 none ∧ GS w1 (fun k => w.heap.size ≤ k) wb 0 E)) => (begun_gs w1).mono (R' := fun y w2 => ∃ xb F, y = .returned (.pointer (some ⟨xb, 0, none⟩)) ∧ Hid (Two w w2 wb xb 0 0 E F)) (by
    rintro y w2 ⟨xb, F, rfl, hf, hG⟩
    exact ⟨xb, F, rfl, two_new hE.out.1 hE.out.2 hf hG⟩)
  have hml : (n : Int) ≤ 9223372036854775807 := by unfold maxLen at hn; omega
  have hml2 : (m : Int) ≤ 9223372036854775807 := by unfold maxLen at hm; omega
  clear hn hm
  go_enter Tryz.func7, Tryz.ntmps7
  go_wp2_with (first | (go_at_call 12; first | (with_reducible refine hbg.mono ?_; rintro y w1 ⟨wb, E, rfl, hE⟩) | (with_reducible refine (hbg2 _ _ _ hE).mono ?_; rintro y w2 ⟨xb, F, rfl, hT⟩)) | fail)
  clear hbg hbg2 hE
  go_loopw [7] (fun iv wr => ∃ j : Nat, j ≤ 250 ∧ iv = .int .i64 j ∧ Hid (Two w wr wb xb j j E F)) (fun iv _ => 250 - (intOf iv).toNat)
  case atStart => exact ⟨0, by omega, rfl, hT⟩
  case round =>
    obtain ⟨j, hj, rfl, hT1⟩ := hrel
    have e4 : IntKind.i64.wrap ((j : Int) + 1) = (j : Int) + 1 := by rw [IntKind.wrap_i64]; omega
    by_cases hlt : j < 250 ∧ (j < n ∨ j < m)
    · have l1 : (j : Int) < 250 := by omega
      have d1 : decide ((j : Int) < 250) = true := decide_eq_true l1
      by_cases h1 : j < n
      · have l2 : (j : Int) < n := by omega
        have d2 : decide ((j : Int) < n) = true := decide_eq_true l2
        obtain ⟨g, o, ha, v, hv, g0, g1, g2, g3, g4, g5⟩ := (hO.kept0 hT1.out.gr) j h1
        subst ha
        have h13 := hT1.out.does (by omega) v hv
        by_cases h2 : j < m
        · have l3 : (j : Int) < m := by omega
          have d3 : decide ((j : Int) < m) = true := decide_eq_true l3
          have hop := fun W (hf : w.grownBy W none) => (hO2.kept0 hf) j h2
          have h13b := fun W (o : Opv) (ho : o.h < 18446744073709551616) (hTT : Hid (Two w W wb xb (j + 1) j E F)) => (hTT.out.symm.does (by omega) o ho).mono (R' := fun y w' => y = .returned (.bool true) ∧ Hid (Two w w' wb xb (j + 1) (j + 1) E F)) (by
            rintro y w' ⟨rfl, hz⟩
            exact ⟨rfl, hz.out.symm⟩)
          unfold Opv.cs at h13 h13b
          obtain ⟨d0, a0, b0, c0v, h0v, r0⟩ := v
          dsimp only at *
          clear hO hO2 hT
          go_wp2_with (first | (go_at_call 13; first | (with_reducible refine h13.mono ?_; rintro y w2 ⟨rfl, hE2⟩; (obtain ⟨g', o', hb', ⟨d0', a0', b0', c0', h0', r0'⟩, hv', k0, k1, k2, k3, k4, k5⟩ := hop _ hE2.out.gr); dsimp only at hv' k0 k1 k2 k3 k4 k5; subst hb') | (with_reducible refine (h13b _ ⟨d0', a0', b0', c0', h0', r0'⟩ hv' hE2).mono ?_; rintro y w3 ⟨rfl, hE3⟩)) | fail)
          exact ⟨⟨j + 1, by omega, by go_num, hE3⟩, by simp [intOf]; omega⟩
        · have l3 : ¬ (j : Int) < m := by omega
          have d3 : decide ((j : Int) < m) = false := decide_eq_false l3
          unfold Opv.cs at h13
          obtain ⟨d0, a0, b0, c0v, h0v, r0⟩ := v
          dsimp only at *
          clear hO hO2 hT
          go_wp2_with (first | (go_at_call 13; with_reducible refine h13.mono ?_; rintro y w2 ⟨rfl, hE2⟩) | fail)
          exact ⟨⟨j + 1, by omega, by go_num, hE2.out.up (by omega) (by omega) (by omega) (by omega)⟩, by simp [intOf]; omega⟩
      · have l2 : ¬ (j : Int) < n := by omega
        have d2 : decide ((j : Int) < n) = false := decide_eq_false l2
        have h2 : j < m := by omega
        have l3 : (j : Int) < m := by omega
        have d3 : decide ((j : Int) < m) = true := decide_eq_true l3
        obtain ⟨g, o, ha, v, hv, g0, g1, g2, g3, g4, g5⟩ := (hO2.kept0 hT1.out.gr) j h2
        subst ha
        have h13 := hT1.out.symm.does (by omega) v hv
        unfold Opv.cs at h13
        obtain ⟨d0, a0, b0, c0v, h0v, r0⟩ := v
        dsimp only at *
        clear hO hO2 hT
        go_wp2_with (first | (go_at_call 13; with_reducible refine h13.mono ?_; rintro y w2 ⟨rfl, hE2⟩) | fail)
        exact ⟨⟨j + 1, by omega, by go_num, hE2.out.symm.up (by omega) (by omega) (by omega) (by omega)⟩, by simp [intOf]; omega⟩
    · have h15 := hT1.out.ends
      have h15b := fun W (hTT : Hid (Two w W wb xb j j E F)) => hTT.out.symm.ends
      have hwk := fun W => wakes_any W
      clear hO hO2 hT
      by_cases h9 : j < 250
      · have l1 : (j : Int) < 250 := by omega
        have l2 : ¬ (j : Int) < n := by omega
        have l3 : ¬ (j : Int) < m := by omega
        have d1 : decide ((j : Int) < 250) = true := decide_eq_true l1
        have d2 : decide ((j : Int) < n) = false := decide_eq_false l2
        have d3 : decide ((j : Int) < m) = false := decide_eq_false l3
        go_wp2_with (first | (go_at_call 15; first | (with_reducible refine h15.mono ?_; rintro y w4 ⟨rfl, hT4⟩) | (with_reducible refine (h15b _ hT4).mono ?_; rintro y w5 ⟨rfl, hT5⟩)) | (go_at_call 17; go_must (refine (hwk _).mono ?_); rintro y w6 ⟨rfl, hf6⟩) | fail)
        go_ret
        exact ⟨rfl, gb_trans hT5.out.gr hf6⟩
      · have l1 : ¬ (j : Int) < 250 := by omega
        have d1 : decide ((j : Int) < 250) = false := decide_eq_false l1
        go_wp2_with (first | (go_at_call 15; first | (with_reducible refine h15.mono ?_; rintro y w4 ⟨rfl, hT4⟩) | (with_reducible refine (h15b _ hT4).mono ?_; rintro y w5 ⟨rfl, hT5⟩)) | (go_at_call 17; go_must (refine (hwk _).mono ?_); rintro y w6 ⟨rfl, hf6⟩) | fail)
        go_ret
        exact ⟨rfl, gb_trans hT5.out.gr hf6⟩
end Go.Proofs.YtjkdflnnpdionaaGreat
