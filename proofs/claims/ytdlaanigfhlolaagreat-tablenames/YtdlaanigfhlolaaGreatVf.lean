import Derived.Test.YtdlaanigfhlolaaGreatVe
/-
  find; wakes.
-/
namespace Go.Proofs.YtdlaanigfhlolaaGreat
open Go.RowKit
set_option linter.unusedVariables false

theorem St2.kept0 {w w' : World} {st sb : Nat} {G : Nat → Prop} {B : Bl} {zs : List Int} {tb hb : Nat} {mo : Int} {rb : Nat} {Fr : Nat → Prop} {Q : Rl} {qb wb : Nat} {mo2 : Int} {av : Value} {gi ci : Nat} {its : Nat → List Value} {ka : Option Addr} {kc : Nat} {va : Option Addr} {vc gin cin : Nat} (h : St2 w st sb G B zs tb hb mo rb Fr Q qb wb mo2 av gi ci its ka kc va vc gin cin) (hf : w.grownBy w' none) : St2 w' st sb G B zs tb hb mo rb Fr Q qb wb mo2 av gi ci its ka kc va vc gin cin :=
  ⟨h.box.kept hf (by simp), h.iss.kept0 hf, h.isi, h.ist.kept0 hf, h.isr.kept0 hf, h.isq.kept0 hf, h.it, h.has.kept0 hf, h.bw.kept hf (by simp), gb_cellN hf h.gin⟩

set_option maxRecDepth 100000 in
set_option maxHeartbeats 4000000 in
theorem find0 {w : World} {st sb : Nat} {G : Nat → Prop} {B : Bl} {zs : List Int} {tb hb : Nat} {mo : Int} {rb : Nat} {Fr : Nat → Prop} {Q : Rl} {qb wb : Nat} {mo2 : Int} {av : Value} {gi ci : Nat} {its : Nat → List Value} {ka : Option Addr} {kc : Nat} {va : Option Addr} {vc gin cin : Nat} (h : St2 w st sb G B zs tb hb mo rb Fr Q qb wb mo2 av gi ci its ka kc va vc gin cin) {a : Option Addr} {cp : Nat} (hy : Has w a 1 [107]) (hc : a = none → cp = 0) :
    Calls Tryz.prog 10 #[.pointer (some ⟨st, 0, none⟩), .slice a 1 cp] w fun y w' => y = .returned (.bool true) ∧ w.grownBy w' none := by
  have hle := lend_any hy cp hc (by omega)
  have hfi := fun W (hf : w.grownBy W none) ao cap (hh : Has W ao 1 [107]) => find1 (h.kept0 hf).ist (h.kept0 hf).iss iwk_inv.fit iwk_isH wkT (by rw [iwk_place]; exact h.isi) (by rw [iwk_own, iwk_sz]; decide) (a := ao) (n := 1) (cp := cap) hh (by omega) (by
    have e16 : sumB wkT.key % ((List.replicate 16 0).set wkr 1).length = wkr := by simp [wkr, wkT]
    rw [e16]
    simp [List.getD, wkr_lt]) (by omega)
  have hrf := fun W (hf : w.grownBy W none) => rfind5_one (h.kept0 hf).bw (H := 1) (h.kept0 hf).gin (fun W2 hf2 => rread3 ((h.kept0 hf).kept0 hf2).isq (i := 0) (H := 1) (fun W3 hf3 => rfind_yes (((h.kept0 hf).kept0 hf2).kept0 hf3).isr wkR2_fit (by rw [wkR2_N]; decide) wkR2_tk wkR2_h (fun j hj => by omega)) (by decide) (by decide) h.it) (h.kept0 hf).has bytes_k (hy.kept0 hf) (cp := cp)
  simp only [show ((1 : Nat) : Int) = 1 from rfl] at hfi hrf
  have hin := fun W (hf : w.grownBy W none) B ao cap (ho : Own B W ao cap ([107] ++ marksTo 70)) => intact_any (n := 1) (c := cp) ho (hy.kept0 hf) bytes_k (by omega)
  have hcs := fun W (hf : w.grownBy W none) => (h.kept0 hf).box
  have hhas : ∀ B W ao cap, Own B W ao cap ([107] ++ marksTo 70) → Has W ao 1 [107] := fun B W ao cap ho => by
    have h1 := ho.has
    refine ⟨rfl, fun _ => ?_⟩
    obtain ⟨b, o, rfl, hcc⟩ := h1.2 (by simp)
    refine ⟨b, o, rfl, fun i hi => ?_⟩
    have := hcc i (by simp; omega)
    have hi0 : i = 0 := by omega
    subst hi0
    simpa using this
  clear hy
  go_enter Tryz.func10, Tryz.ntmps10
  go_wp2_with (first | (go_at_call 49; go_must (refine hle.mono ?_); rintro y w1 ⟨ao, cap, rfl, ho1, hf1⟩; (have d1 := (hcs _ hf1).cell 1); (have d3 := (hcs _ hf1).cell 3); simp at d1 d3; (have hh1 := hhas _ _ _ _ ho1)) | (go_at_call 24; go_must (refine (hfi _ hf1 _ _ hh1).mono ?_); rintro y w2 ⟨rfl, hf2⟩; (have hf12 := gb_trans hf1 hf2); (have b1 := (hcs _ hf12).cell 1); (have b3 := (hcs _ hf12).cell 3); simp at b1 b3) | (go_at_call 50; go_must (refine (hrf _ hf12).mono ?_); rintro y w3 ⟨rfl, hf3⟩; (have hf13 := gb_trans hf12 hf3); (have ho3 := (ho1.kept hf2 (Classical.em _)).kept hf3 (Classical.em _))) | (go_at_call 51; go_must (refine (hin _ hf13 _ _ _ ho3).mono ?_); rintro y w4 ⟨rfl, hf4⟩) | fail)
  go_ret
  exact ⟨rfl, gb_trans hf13 hf4⟩

theorem St0.kept0 {w w' : World} {base st sb : Nat} {G : Nat → Prop} {B : Bl} {zs : List Int} {tb hb : Nat} {mo : Int} {rb : Nat} {Fr : Nat → Prop} {Q : Rl} {qb wb : Nat} {mo2 : Int} {a1 a2 : Nat} (h : St0 w base st sb G B zs tb hb mo rb Fr Q qb wb mo2 a1 a2) (hf : w.grownBy w' none) : St0 w' base st sb G B zs tb hb mo rb Fr Q qb wb mo2 a1 a2 :=
  ⟨h.box.kept hf (by simp), h.zl, h.iss.kept0 hf, h.ist.kept0 hf, h.m16, h.isr.kept0 hf, h.isq.kept0 hf, h.bw.kept hf (by simp), h.g1, h.g2, h.le, h.lo⟩

set_option maxRecDepth 100000 in
set_option maxHeartbeats 4000000 in
theorem wakes5 (w : World) : Calls Tryz.prog 12 #[] w fun y w' => y = .returned (.bool true) ∧ w.grownBy w' none := by
  have hbg := (begun0 w).mono (R' := fun y w0 => ∃ st : Nat, y = .returned (.pointer (some ⟨st, 0, none⟩)) ∧ Hid (w.grownBy w0 none ∧ ∃ sb G B zs tb hb mo rb Fr Q qb wb mo2 a1 a2, St0 w0 w.heap.size st sb G B zs tb hb mo rb Fr Q qb wb mo2 a1 a2)) (by
    rintro y w0 ⟨st, sb, G, B, zs, tb, hb, mo, rb, Fr, Q, qb, wb, mo2, a1, a2, rfl, hf, h⟩
    exact ⟨st, rfl, hf, sb, G, B, zs, tb, hb, mo, rb, Fr, Q, qb, wb, mo2, a1, a2, h⟩)
  have hmk := fun w0 st (hE : Hid (w.grownBy w0 none ∧ ∃ sb G B zs tb hb mo rb Fr Q qb wb mo2 a1 a2, St0 w0 w.heap.size st sb G B zs tb hb mo rb Fr Q qb wb mo2 a1 a2)) => (show Calls Tryz.prog 33 #[.pointer (some ⟨st, 0, none⟩), .int .i64 0, .slice (some ⟨w0.heap.size, 0, none⟩) 1 1] (w0.alloc (.cells #[.int .u8 107] 5 (1, 2))) (fun y w2 => y = .returned (.tuple #[.int .u64 1, .bool true]) ∧ Hid (w.grownBy w2 none ∧ ∃ sb G' B' zs' tb hb mo rb Fr' Q' qb wb mo2 av gi ci its ka' kc' va' vc', St1 w2 st sb G' B' zs' tb hb mo rb Fr' Q' qb wb mo2 av gi ci its ka' kc' va' vc' ∧ w.heap.size ≤ hb ∧ w.heap.size ≤ tb ∧ w.heap.size ≤ wb ∧ ∀ k, G' k → w.heap.size ≤ k)) by
    obtain ⟨hf, sb, G, B, zs, tb, hb, mo, rb, Fr, Q, qb, wb, mo2, a1, a2, h0⟩ := hE.out
    have hal := World.grownBy_alloc w0 (.cells #[.int .u8 107] 5 (1, 2)) none
    have l1 := h0.box.lt
    have l2 := h0.isq.box.lt
    have l3 := h0.lo
    have l4 := h0.le
    refine (make0 (h0.kept0 hal) (ka := some ⟨w0.heap.size, 0, none⟩) (kc := 1) (has_one (cell_new1 w0 107 (1, 2))) (by simp) (fun k hk => by
      simp at hk
      subst hk
      simp
      omega)).mono ?_
    rintro y w2 ⟨rfl, hK, -, G', B', zs', Fr', Q', av, gi, ci, its, ka', kc', va', vc', h1, hG⟩
    refine ⟨rfl, ?_, sb, G', B', zs', tb, hb, mo, rb, Fr', Q', qb, wb, mo2, av, gi, ci, its, ka', kc', va', vc', h1, by omega, by omega, by omega, hG⟩
    exact ((Kp.of (F := fun _ => False) (gb_trans hf hal)).trans hK (H := fun _ => False) (fun _ h => h) (fun k hk => .inr hk)).grown (fun i hi => hi.elim))
  have hpt := fun w2 st (hE : Hid (w.grownBy w2 none ∧ ∃ sb G' B' zs' tb hb mo rb Fr' Q' qb wb mo2 av gi ci its ka' kc' va' vc', St1 w2 st sb G' B' zs' tb hb mo rb Fr' Q' qb wb mo2 av gi ci its ka' kc' va' vc' ∧ w.heap.size ≤ hb ∧ w.heap.size ≤ tb ∧ w.heap.size ≤ wb ∧ ∀ k, G' k → w.heap.size ≤ k)) => (show Calls Tryz.prog 34 #[.pointer (some ⟨st, 0, none⟩), .int .u64 1] w2 (fun y w3 => y = .returned (.bool true) ∧ Hid (w.grownBy w3 none ∧ ∃ sb G' B' zs' tb hb mo rb Fr' Q' qb wb mo2 av gi ci its ka' kc' va' vc' gin cin, St2 w3 st sb G' B' zs' tb hb mo rb Fr' Q' qb wb mo2 av gi ci its ka' kc' va' vc' gin cin)) by
    obtain ⟨hf, sb, G', B', zs', tb, hb, mo, rb, Fr', Q', qb, wb, mo2, av, gi, ci, its, ka', kc', va', vc', h1, l1, l2, l3, l4⟩ := hE.out
    refine (put0 h1).mono ?_
    rintro y w3 ⟨rfl, hK, gin, cin, h2⟩
    refine ⟨rfl, ?_, sb, G', B', zs', tb, hb, mo, rb, Fr', Q', qb, wb, mo2, av, gi, ci, its, ka', kc', va', vc', gin, cin, h2⟩
    exact ((Kp.of (F := fun _ => False) hf).trans hK (H := fun _ => False) (fun _ h => h) (fun k hk => .inr (by
      rcases hk with h3 | h3 | h3 | h3
      · exact l4 k h3
      · omega
      · omega
      · omega))).grown (fun i hi => hi.elim))
  have hfd := fun w3 st (hE : Hid (w.grownBy w3 none ∧ ∃ sb G' B' zs' tb hb mo rb Fr' Q' qb wb mo2 av gi ci its ka' kc' va' vc' gin cin, St2 w3 st sb G' B' zs' tb hb mo rb Fr' Q' qb wb mo2 av gi ci its ka' kc' va' vc' gin cin)) => (show Calls Tryz.prog 10 #[.pointer (some ⟨st, 0, none⟩), .slice (some ⟨w3.heap.size, 0, none⟩) 1 1] (w3.alloc (.cells #[.int .u8 107] 5 (1, 2))) (fun y w4 => ∃ tb : Nat, y = .returned (.bool true) ∧ w4.cell? ⟨st, 1, none⟩ = some (.pointer (some ⟨tb, 0, none⟩)) ∧ w4.cell? ⟨tb, 2, none⟩ = some (.int .i64 1) ∧ Hid (w.grownBy w4 none)) by
    obtain ⟨hf, sb, G', B', zs', tb, hb, mo, rb, Fr', Q', qb, wb, mo2, av, gi, ci, its, ka', kc', va', vc', gin, cin, h2⟩ := hE.out
    have hal := World.grownBy_alloc w3 (.cells #[.int .u8 107] 5 (1, 2)) none
    refine (find0 (h2.kept0 hal) (has_one (cell_new1 w3 107 (1, 2))) (by simp)).mono ?_
    rintro y w4 ⟨rfl, hf4⟩
    have h4 := (h2.kept0 hal).kept0 hf4
    exact ⟨tb, rfl, h4.box.cell 1, h4.ist.box.cell 2, gb_trans (gb_trans hf hal) hf4⟩)
  have hln := fun tb W (hc : World.cell? W ⟨tb, 2, none⟩ = some (.int .i64 1)) => (show Calls Tryz.prog 25 #[.pointer (some ⟨tb, 0, none⟩)] W (fun y w' => y = .returned (.int .i64 1) ∧ W = w') by
    go_enter Tryz.func25, Tryz.ntmps25
    go_wp2
    go_ret
    exact ⟨rfl, rfl⟩)
  go_enter Tryz.func12, Tryz.ntmps12
  go_wp2_with (first | (go_at_call 7; go_must (refine hbg.mono ?_); rintro y w0 ⟨st, rfl, hE0⟩; (have hcv0 := Lib.run_convert_bytes_const w0 29 5 #[.int .u8 107] 1 1 Tryz.underlying29 Tryz.underlying5); simp at hcv0) | (go_at_call 33; go_must (with_reducible refine (hmk _ _ hE0).mono ?_); rintro y w2 ⟨rfl, hE2⟩) | (go_at_call 29; go_must (refine (tnew_nil _).mono ?_); rintro y w' ⟨rfl, rfl⟩) | (go_at_call 34; go_must (with_reducible refine (hpt _ _ hE2).mono ?_); rintro y w3 ⟨rfl, hE3⟩; (have hcv3 := Lib.run_convert_bytes_const w3 29 5 #[.int .u8 107] 1 1 Tryz.underlying29 Tryz.underlying5); simp at hcv3) | (go_at_call 10; go_must (with_reducible refine (hfd _ _ hE3).mono ?_); rintro y w4 ⟨tb, rfl, d1, d2, hE4⟩) | (go_at_call 25; go_must (with_reducible refine (hln _ _ d2).mono ?_); rintro y w' ⟨rfl, rfl⟩) | (go_at_call 13; go_must (refine (num_any _ _).mono ?_); rintro y w' ⟨rfl, rfl⟩) | fail)
  go_ret
  exact ⟨rfl, hE4.out⟩

set_option maxRecDepth 100000 in
theorem tableNames_any (w : World) : Calls Tryz.prog 4 #[] w fun y w' => y = .returned (.bool true) ∧ w.grownBy w' none := by
  have hw := fun W => wakes5 W
  go_enter Tryz.func4, Tryz.ntmps4
  go_wp2_with (first | (go_at_call 13; go_must (refine (num_any _ _).mono ?_); rintro y w' ⟨rfl, rfl⟩) | (go_at_call 12; go_must (refine (hw _).mono ?_); rintro y w1 ⟨rfl, hf1⟩) | fail)
  go_ret
  exact ⟨rfl, hf1⟩
end Go.Proofs.YtdlaanigfhlolaaGreat
