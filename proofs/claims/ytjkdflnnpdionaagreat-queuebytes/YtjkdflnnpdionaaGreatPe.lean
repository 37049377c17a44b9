import Derived.Test.YtjkdflnnpdionaaGreatPd
/-
  QueueBytes, the walk.
-/
namespace Go.Proofs.YtjkdflnnpdionaaGreat
open Go.RowKit
set_option linter.unusedVariables false

section
variable {w0 wr w : World} {P : Nat → Prop} {wb N : Nat} {D : Wd} {gw cw : Nat} {o : Opv}
theorem Fb.looks (h : Fb w0 wr w P wb N D gw cw o) (c k : Int) : Calls Tryz.prog 34 #[.pointer (some ⟨wb, 0, none⟩), .int .i64 c, .int .i64 k] w fun y w' => y = .returned (.bool true) ∧ Box w' 28 wr.heap.size o.cs ∧ Hid (Fb w0 wr w' P wb N D gw cw o) := by
  refine (looks_34 (h.gt.kept0 h.gr) c k).mono ?_
  rintro y w' ⟨rfl, hf⟩
  exact ⟨rfl, (h.kept0 hf).bx, h.kept0 hf⟩
theorem Fb.all (h : Fb w0 wr w P wb N D gw cw o) (c k : Int) : Calls Tryz.prog 36 #[.pointer (some ⟨wb, 0, none⟩), .int .i64 c, .int .i64 k] w fun y w' => y = .returned (.bool true) ∧ Box w' 28 wr.heap.size o.cs ∧ Hid (Fb w0 wr w' P wb N D gw cw o) := by
  refine (all_36 (h.gt.kept0 h.gr) c k).mono ?_
  rintro y w' ⟨rfl, hf⟩
  exact ⟨rfl, (h.kept0 hf).bx, h.kept0 hf⟩
theorem Fb.next (h : Fb w0 wr w P wb N D gw cw o) {H : Nat} (h64 : H < 18446744073709551616) : Calls Tryz.prog 35 #[.pointer (some ⟨wb, 0, none⟩), .int .u64 H] w fun y w' => y = .returned (.bool true) ∧ Box w' 28 wr.heap.size o.cs ∧ Hid (Fb w0 wr w' P wb N D gw cw o) := by
  refine (next_35 (h.gt.kept0 h.gr) h64).mono ?_
  rintro y w' ⟨rfl, hf⟩
  exact ⟨rfl, (h.kept0 hf).bx, h.kept0 hf⟩
end
set_option maxRecDepth 100000 in
set_option maxHeartbeats 8000000 in
theorem queueBytes_any {w : World} {a : Option Addr} {n c : Nat} (hO : OpsIn w a n) (hn : n ≤ maxLen) :
    Calls Tryz.prog 6 #[.slice a n c] w fun y w' => y = .returned (.bool true) ∧ w.grownBy w' none := by
  have hbg := (begun_gs w).mono (R' := fun y w1 => ∃ wb E, y = .returned (.pointer (some ⟨wb, 0, none⟩)) ∧ Hid (w.grownBy w1 none ∧ GS w1 (fun k => w.heap.size ≤ k) wb 0 E)) (by
    rintro y w1 ⟨wb, E, rfl, hf, hG⟩
    exact ⟨wb, E, rfl, hf, hG⟩)
  have hml : (n : Int) ≤ 9223372036854775807 := by unfold maxLen at hn; omega
  clear hn
  go_enter Tryz.func6, Tryz.ntmps6
  go_wp2_with (first | (go_at_call 12; go_must (refine hbg.mono ?_); rintro y w1 ⟨wb, E, rfl, hE⟩) | fail)
  go_loopw [4] (fun iv wr => ∃ i : Nat, i ≤ 60 ∧ iv = .int .i64 i ∧ Hid (w.grownBy wr none ∧ GS wr (fun k => w.heap.size ≤ k) wb i E)) (fun iv _ => 60 - (intOf iv).toNat)
  case atStart => exact ⟨0, by omega, rfl, hE⟩
  case round =>
    obtain ⟨i, hi, rfl, hEj⟩ := hrel
    have e4 : IntKind.i64.wrap ((i : Int) + 1) = (i : Int) + 1 := by rw [IntKind.wrap_i64]; omega
    by_cases hlt : i < n ∧ i < 60
    · obtain ⟨b, o, ha, v, hv, g0, g1, g2, g3, g4, g5⟩ := (hO.kept0 hEj.out.1) i hlt.1
      subst ha
      have hd1 : decide ((i : Int) < n) = true := decide_eq_true (by omega)
      have hd2 : decide ((i : Int) < 60) = true := decide_eq_true (by omega)
      have hl1 : (i : Int) < n := by omega
      have hl2 : (i : Int) < 60 := by omega
      have hal := World.grownBy_alloc wr (.cells v.cs 28) none
      have hb0 := Box.new wr 28 v.cs
      have h13 := (does_13 (hEj.out.2.kept0 hal) (fun k hk => Nat.le_trans (Nat.le_trans hEj.out.1.size hal.size) hk) (by omega) v hv).mono (R' := fun y w2 => y = .returned (.bool true) ∧ Hid (w.grownBy w2 none ∧ GS w2 (fun k => w.heap.size ≤ k) wb (i + 1) E)) (by
        rintro y w2 ⟨rfl, hK, hG⟩
        exact ⟨rfl, kp_grown (gb_trans hEj.out.1 hal) hK, hG⟩)
      obtain ⟨D, hs, hT⟩ := hEj.out.2.gt
      have hnew := Fb.new hEj.out.1 hT (fun k => Iff.rfl) v
      have hhd := fun W gw cw (hB : Hid (Fb w wr W (fun k => w.heap.size ≤ k) wb i D gw cw v)) => hB.out.handle hv
      unfold Opv.cs at h13 hb0 hnew hhd
      obtain ⟨d0, a0, b0, c0v, h0v, r0⟩ := v
      dsimp only at *
      have u0 := hb0.cell 0
      have u1 := hb0.cell 1
      have u2 := hb0.cell 2
      have u3 := hb0.cell 3
      have u4 := hb0.cell 4
      have u5 := hb0.cell 5
      simp at u0 u1 u2 u3 u4 u5
      have hP0 : ∀ k, w.heap.size ≤ k ↔ w.heap.size ≤ k := fun k => Iff.rfl
      clear hO hE hbg hal hb0 hT hEj hP0
      have hi3 : i < 300 := by omega
      by_cases e13 : 1 ≤ d0 ∧ d0 ≤ 3
      · have d1 : decide (d0 ≥ 1) = true := decide_eq_true (by omega)
        have d3 : decide (d0 ≤ 3) = true := decide_eq_true (by omega)
        clear hnew hhd
        go_wp2_with (first | (go_at_call 13; go_must (refine h13.mono ?_); rintro y w2 ⟨rfl, hE2⟩) | fail)
        exact ⟨⟨i + 1, by omega, by go_num, hE2⟩, by simp [intOf]; omega⟩
      · clear h13
        by_cases e4 : d0 = 4
        · subst e4
          go_wp2_with (first | (go_at_call 29; go_must (refine hnew.mono ?_); rintro y w4 ⟨gw, cw, rfl, hb4, hB4⟩; (have v0 := hb4.cell 0); (have v1 := hb4.cell 1); (have v2 := hb4.cell 2); (have v3 := hb4.cell 3); (have v4 := hb4.cell 4); (have v5 := hb4.cell 5); simp at v0 v1 v2 v3 v4 v5) | (go_at_call 30; go_must (refine (hhd _ _ _ hB4).mono ?_); rintro y w5 ⟨H, rfl, h64, hb5, hB5⟩; (have x0 := hb5.cell 0); simp at x0) | fail)
          have hB6 : Hid (Fb w wr w5.drew (fun k => w.heap.size ≤ k) wb i D gw cw ⟨4, a0, b0, c0v, h0v, r0⟩) := hB5.out.kept0 (gb_drew (gb_refl _ _))
          obtain ⟨er, hc1⟩ := hB6.out.push (by omega) h64 b0
          unfold Opv.cs at hc1
          dsimp only at hc1
          have hCC : ∀ W, Cells W wb D → Box W 28 wr.heap.size #[.int .i64 4, .int .i64 a0, .int .i64 b0, .int .i64 c0v, .int .u64 h0v, .bool r0] → (W.cell? ⟨wb, 1, none⟩ = some (.pointer (some ⟨D.qb, 0, none⟩)) ∧ W.cell? ⟨wb, 3, none⟩ = some (.pointer (some ⟨D.lb, 0, none⟩)) ∧ W.cell? ⟨wr.heap.size, 2, none⟩ = some (.int .i64 b0)) := fun W hc hb => ⟨hc.2.1, hc.2.2.2, hb.cell 2⟩
          have hk0 := hCC _ (hB6.out.gt.kept0 hB6.out.gr).cells hB6.out.bx
          clear u0 u1 u2 u3 u4 u5 v0 v1 v2 v3 v4 v5 x0 hnew hhd hb4 hb5 hB4 hB5 hB6
          go_region_held3 (fun W => W.cell? ⟨wb, 1, none⟩ = some (.pointer (some ⟨D.qb, 0, none⟩)) ∧ W.cell? ⟨wb, 3, none⟩ = some (.pointer (some ⟨D.lb, 0, none⟩)) ∧ W.cell? ⟨wr.heap.size, 2, none⟩ = some (.int .i64 b0)) ((first | with_reducible exact hk1 | with_reducible exact hk0 | go_keep)) ((first | (go_at_call 23; with_reducible refine hc1.mono ?_; rintro y w6 ⟨rfl, hce6, hb6, hc2⟩; (have hk1 := hCC _ hce6 hb6)) | (go_at_call 16; with_reducible refine (num_any _ _).mono ?_; rintro y w' ⟨rfl, rfl⟩)))
          go_wp2
          obtain ⟨hce6', hb6', hc3⟩ := hc2 w6.drew (gb_drew (gb_refl _ _))
          have hk2 := hCC _ hce6' hb6'
          go_region_held3 (fun W => W.cell? ⟨wb, 1, none⟩ = some (.pointer (some ⟨D.qb, 0, none⟩)) ∧ W.cell? ⟨wb, 3, none⟩ = some (.pointer (some ⟨D.lb, 0, none⟩)) ∧ W.cell? ⟨wr.heap.size, 2, none⟩ = some (.int .i64 b0)) ((first | with_reducible exact hk3 | with_reducible exact hk2 | go_keep)) ((first | (go_at_call 31; with_reducible refine hc3.mono ?_; rintro y w7 ⟨rfl, hce7, hb7, hF⟩; (have hk3 := hCC _ hce7 hb7))))
          clear hc1 hc2 hc3 hk0 hk1 hk2 hk3 hce6 hb6 hce6' hb6' hce7 hb7 hCC
          by_cases he : er = 0
          · subst he
            go_wp2_with (first | (go_at_call 29; go_must (refine (hF.out.now).mono ?_); rintro y w7 ⟨gn, cn, zs, rfl, hM⟩) | (go_at_call 37; go_must (refine (hM.out.apart).mono ?_); rintro y w8 ⟨rfl, hM8⟩) | fail)
            exact ⟨⟨i + 1, by omega, by go_num, hM8.out.gs hs⟩, by simp [intOf]; omega⟩
          · have d5 : decide (er = 0) = false := decide_eq_false he
            go_wp2_with (first | (go_at_call 29; go_must (refine (hF.out.now).mono ?_); rintro y w7 ⟨gn, cn, zs, rfl, hM⟩) | (go_at_call 37; go_must (refine (hM.out.apart).mono ?_); rintro y w8 ⟨rfl, hM8⟩) | (go_at_call 38; go_must (refine (hM8.out.same he).mono ?_); rintro y w9 ⟨rfl, rfl⟩) | fail)
            exact ⟨⟨i + 1, by omega, by go_num, hM8.out.gs hs⟩, by simp [intOf]; omega⟩
        by_cases e5 : d0 = 5
        · subst e5
          go_wp2_with (first | (go_at_call 29; go_must (refine hnew.mono ?_); rintro y w4 ⟨gw, cw, rfl, hb4, hB4⟩; (have v0 := hb4.cell 0); (have v1 := hb4.cell 1); (have v2 := hb4.cell 2); (have v3 := hb4.cell 3); (have v4 := hb4.cell 4); (have v5 := hb4.cell 5); simp at v0 v1 v2 v3 v4 v5) | (go_at_call 30; go_must (refine (hhd _ _ _ hB4).mono ?_); rintro y w5 ⟨H, rfl, h64, hb5, hB5⟩; (have x0 := hb5.cell 0); simp at x0) | fail)
          have hB6 : Hid (Fb w wr w5.drew (fun k => w.heap.size ≤ k) wb i D gw cw ⟨5, a0, b0, c0v, h0v, r0⟩) := hB5.out.kept0 (gb_drew (gb_refl _ _))
          obtain ⟨er, hc1⟩ := hB6.out.last (by omega) h64 b0
          unfold Opv.cs at hc1
          dsimp only at hc1
          have hCC : ∀ W, Cells W wb D → Box W 28 wr.heap.size #[.int .i64 5, .int .i64 a0, .int .i64 b0, .int .i64 c0v, .int .u64 h0v, .bool r0] → (W.cell? ⟨wb, 1, none⟩ = some (.pointer (some ⟨D.qb, 0, none⟩)) ∧ W.cell? ⟨wb, 3, none⟩ = some (.pointer (some ⟨D.lb, 0, none⟩)) ∧ W.cell? ⟨wr.heap.size, 2, none⟩ = some (.int .i64 b0)) := fun W hc hb => ⟨hc.2.1, hc.2.2.2, hb.cell 2⟩
          have hk0 := hCC _ (hB6.out.gt.kept0 hB6.out.gr).cells hB6.out.bx
          clear u0 u1 u2 u3 u4 u5 v0 v1 v2 v3 v4 v5 x0 hnew hhd hb4 hb5 hB4 hB5 hB6
          go_region_held3 (fun W => W.cell? ⟨wb, 1, none⟩ = some (.pointer (some ⟨D.qb, 0, none⟩)) ∧ W.cell? ⟨wb, 3, none⟩ = some (.pointer (some ⟨D.lb, 0, none⟩)) ∧ W.cell? ⟨wr.heap.size, 2, none⟩ = some (.int .i64 b0)) ((first | with_reducible exact hk1 | with_reducible exact hk0 | go_keep)) ((first | (go_at_call 24; with_reducible refine hc1.mono ?_; rintro y w6 ⟨rfl, hce6, hb6, hc2⟩; (have hk1 := hCC _ hce6 hb6)) | (go_at_call 16; with_reducible refine (num_any _ _).mono ?_; rintro y w' ⟨rfl, rfl⟩)))
          go_wp2
          obtain ⟨hce6', hb6', hc3⟩ := hc2 w6.drew (gb_drew (gb_refl _ _))
          have hk2 := hCC _ hce6' hb6'
          go_region_held3 (fun W => W.cell? ⟨wb, 1, none⟩ = some (.pointer (some ⟨D.qb, 0, none⟩)) ∧ W.cell? ⟨wb, 3, none⟩ = some (.pointer (some ⟨D.lb, 0, none⟩)) ∧ W.cell? ⟨wr.heap.size, 2, none⟩ = some (.int .i64 b0)) ((first | with_reducible exact hk3 | with_reducible exact hk2 | go_keep)) ((first | (go_at_call 31; with_reducible refine hc3.mono ?_; rintro y w7 ⟨rfl, hce7, hb7, hF⟩; (have hk3 := hCC _ hce7 hb7))))
          clear hc1 hc2 hc3 hk0 hk1 hk2 hk3 hce6 hb6 hce6' hb6' hce7 hb7 hCC
          by_cases he : er = 0
          · subst he
            go_wp2_with (first | (go_at_call 29; go_must (refine (hF.out.now).mono ?_); rintro y w7 ⟨gn, cn, zs, rfl, hM⟩) | (go_at_call 37; go_must (refine (hM.out.apart).mono ?_); rintro y w8 ⟨rfl, hM8⟩) | fail)
            exact ⟨⟨i + 1, by omega, by go_num, hM8.out.gs hs⟩, by simp [intOf]; omega⟩
          · have d5 : decide (er = 0) = false := decide_eq_false he
            go_wp2_with (first | (go_at_call 29; go_must (refine (hF.out.now).mono ?_); rintro y w7 ⟨gn, cn, zs, rfl, hM⟩) | (go_at_call 37; go_must (refine (hM.out.apart).mono ?_); rintro y w8 ⟨rfl, hM8⟩) | (go_at_call 38; go_must (refine (hM8.out.same he).mono ?_); rintro y w9 ⟨rfl, rfl⟩) | fail)
            exact ⟨⟨i + 1, by omega, by go_num, hM8.out.gs hs⟩, by simp [intOf]; omega⟩
        by_cases e6 : d0 = 6
        · subst e6
          clear u1 u2 u3 u4 u5
          go_wp2_with (first | (go_at_call 29; first | (refine hnew.mono ?_; rintro y w4 ⟨gw, cw, rfl, hb4, hB4⟩; (have v0 := hb4.cell 0); (have v1 := hb4.cell 1); (have v2 := hb4.cell 2); (have v3 := hb4.cell 3); (have v4 := hb4.cell 4); (have v5 := hb4.cell 5); simp at v0 v1 v2 v3 v4 v5) | (refine (hF.out.now).mono ?_; rintro y w8 ⟨gn, cn, zs, rfl, hM⟩)) | (go_at_call 30; go_must (refine (hhd _ _ _ hB4).mono ?_); rintro y w5 ⟨H, rfl, h64, hb5, hB5⟩; (have x0 := hb5.cell 0); simp at x0; (obtain ⟨er, hc1⟩ := hB5.out.drop (by omega) h64); unfold Opv.cs at hc1; dsimp only at hc1; (obtain ⟨_, q1, _, q3⟩ := (hB5.out.gt.kept0 hB5.out.gr).cells)) | (go_at_call 25; go_must (refine hc1.mono ?_); rintro y w6 ⟨rfl, hce6, hb6, hc2⟩; (obtain ⟨_, p1, _, p3⟩ := hce6); (obtain ⟨_, _, hc3⟩ := hc2 _ (gb_refl _ _))) | (go_at_call 16; go_must (refine (num_any _ _).mono ?_); rintro y w' ⟨rfl, rfl⟩) | (go_at_call 32; go_must (refine hc3.mono ?_); rintro y w7 ⟨rfl, hce7, hb7, hF⟩; rcases Decidable.em (er = 0) with rfl | he) | (go_at_call 37; go_must (refine (hM.out.apart).mono ?_); rintro y w9 ⟨rfl, hM8⟩) | fail)
          · exact ⟨⟨i + 1, by omega, by go_num, hM8.out.gs hs⟩, by simp [intOf]; omega⟩
          · have d5 : decide (er = 0) = false := decide_eq_false he
            go_wp2_with (first | (go_at_call 29; go_must (refine (hF.out.now).mono ?_); rintro y w8 ⟨gn, cn, zs, rfl, hM⟩) | (go_at_call 37; go_must (refine (hM.out.apart).mono ?_); rintro y w9 ⟨rfl, hM8⟩) | (go_at_call 38; go_must (refine (hM8.out.same he).mono ?_); rintro y w10 ⟨rfl, rfl⟩) | fail)
            exact ⟨⟨i + 1, by omega, by go_num, hM8.out.gs hs⟩, by simp [intOf]; omega⟩
        by_cases e7 : d0 = 7
        · subst e7
          go_wp2_with (first | (go_at_call 29; go_must (refine hnew.mono ?_); rintro y w4 ⟨gw, cw, rfl, hb4, hB4⟩; (have v0 := hb4.cell 0); (have v1 := hb4.cell 1); (have v2 := hb4.cell 2); (have v3 := hb4.cell 3); (have v4 := hb4.cell 4); (have v5 := hb4.cell 5); simp at v0 v1 v2 v3 v4 v5) | (go_at_call 30; go_must (refine (hhd _ _ _ hB4).mono ?_); rintro y w5 ⟨H, rfl, h64, hb5, hB5⟩; (have x0 := hb5.cell 0); simp at x0) | fail)
          have hB6 : Hid (Fb w wr w5.drew (fun k => w.heap.size ≤ k) wb i D gw cw ⟨7, a0, b0, c0v, h0v, r0⟩) := hB5.out.kept0 (gb_drew (gb_refl _ _))
          obtain ⟨er, hc1⟩ := hB6.out.shift (by omega) h64 b0
          unfold Opv.cs at hc1
          dsimp only at hc1
          have hCC : ∀ W, Cells W wb D → Box W 28 wr.heap.size #[.int .i64 7, .int .i64 a0, .int .i64 b0, .int .i64 c0v, .int .u64 h0v, .bool r0] → (W.cell? ⟨wb, 1, none⟩ = some (.pointer (some ⟨D.qb, 0, none⟩)) ∧ W.cell? ⟨wb, 3, none⟩ = some (.pointer (some ⟨D.lb, 0, none⟩)) ∧ W.cell? ⟨wr.heap.size, 2, none⟩ = some (.int .i64 b0)) := fun W hc hb => ⟨hc.2.1, hc.2.2.2, hb.cell 2⟩
          have hk0 := hCC _ (hB6.out.gt.kept0 hB6.out.gr).cells hB6.out.bx
          clear u0 u1 u2 u3 u4 u5 v0 v1 v2 v3 v4 v5 x0 hnew hhd hb4 hb5 hB4 hB5 hB6
          go_region_held3 (fun W => W.cell? ⟨wb, 1, none⟩ = some (.pointer (some ⟨D.qb, 0, none⟩)) ∧ W.cell? ⟨wb, 3, none⟩ = some (.pointer (some ⟨D.lb, 0, none⟩)) ∧ W.cell? ⟨wr.heap.size, 2, none⟩ = some (.int .i64 b0)) ((first | with_reducible exact hk1 | with_reducible exact hk0 | go_keep)) ((first | (go_at_call 26; with_reducible refine hc1.mono ?_; rintro y w6 ⟨rfl, hce6, hb6, hc2⟩; (have hk1 := hCC _ hce6 hb6)) | (go_at_call 16; with_reducible refine (num_any _ _).mono ?_; rintro y w' ⟨rfl, rfl⟩)))
          go_wp2
          obtain ⟨hce6', hb6', hc3⟩ := hc2 w6.drew (gb_drew (gb_refl _ _))
          have hk2 := hCC _ hce6' hb6'
          go_region_held3 (fun W => W.cell? ⟨wb, 1, none⟩ = some (.pointer (some ⟨D.qb, 0, none⟩)) ∧ W.cell? ⟨wb, 3, none⟩ = some (.pointer (some ⟨D.lb, 0, none⟩)) ∧ W.cell? ⟨wr.heap.size, 2, none⟩ = some (.int .i64 b0)) ((first | with_reducible exact hk3 | with_reducible exact hk2 | go_keep)) ((first | (go_at_call 33; with_reducible refine hc3.mono ?_; rintro y w7 ⟨rfl, hce7, hb7, hF⟩; (have hk3 := hCC _ hce7 hb7))))
          clear hc1 hc2 hc3 hk0 hk1 hk2 hk3 hce6 hb6 hce6' hb6' hce7 hb7 hCC
          by_cases he : er = 0
          · subst he
            go_wp2_with (first | (go_at_call 29; go_must (refine (hF.out.now).mono ?_); rintro y w7 ⟨gn, cn, zs, rfl, hM⟩) | (go_at_call 37; go_must (refine (hM.out.apart).mono ?_); rintro y w8 ⟨rfl, hM8⟩) | fail)
            exact ⟨⟨i + 1, by omega, by go_num, hM8.out.gs hs⟩, by simp [intOf]; omega⟩
          · have d5 : decide (er = 0) = false := decide_eq_false he
            go_wp2_with (first | (go_at_call 29; go_must (refine (hF.out.now).mono ?_); rintro y w7 ⟨gn, cn, zs, rfl, hM⟩) | (go_at_call 37; go_must (refine (hM.out.apart).mono ?_); rintro y w8 ⟨rfl, hM8⟩) | (go_at_call 38; go_must (refine (hM8.out.same he).mono ?_); rintro y w9 ⟨rfl, rfl⟩) | fail)
            exact ⟨⟨i + 1, by omega, by go_num, hM8.out.gs hs⟩, by simp [intOf]; omega⟩
        clear u1 u2 u3 u4 u5
        have hlk := fun W gw cw (hB : Hid (Fb w wr W (fun k => w.heap.size ≤ k) wb i D gw cw ⟨d0, a0, b0, c0v, h0v, r0⟩)) => hB.out.looks a0 b0
        have hal' := fun W gw cw (hB : Hid (Fb w wr W (fun k => w.heap.size ≤ k) wb i D gw cw ⟨d0, a0, b0, c0v, h0v, r0⟩)) => hB.out.all a0 b0
        have hnx := fun W gw cw (hB : Hid (Fb w wr W (fun k => w.heap.size ≤ k) wb i D gw cw ⟨d0, a0, b0, c0v, h0v, r0⟩)) (H : Nat) (h64 : H < 18446744073709551616) => hB.out.next h64
        unfold Opv.cs at hlk hal' hnx
        dsimp only at hlk hal' hnx
        have hx1 : (-1 : Int) ≠ 0 := by decide
        by_cases e8 : d0 ≥ 1
        · have d1 : decide (d0 ≥ 1) = true := decide_eq_true e8
          have d3 : decide (d0 ≤ 3) = false := decide_eq_false (by omega)
          have l3 : ¬ d0 ≤ 3 := by omega
          go_wp2_with (first | (go_at_call 29; first | (refine hnew.mono ?_; rintro y w4 ⟨gw, cw, rfl, hb4, hB4⟩; (have v0 := hb4.cell 0); (have v1 := hb4.cell 1); (have v2 := hb4.cell 2); (have v3 := hb4.cell 3); (have v4 := hb4.cell 4); (have v5 := hb4.cell 5); simp at v0 v1 v2 v3 v4 v5) | (refine (hF.out.now).mono ?_; rintro y w8 ⟨gn, cn, zs, rfl, hM⟩)) | (go_at_call 30; go_must (refine (hhd _ _ _ hB4).mono ?_); rintro y w5 ⟨H, rfl, h64, hb5, hB5⟩; (have x0 := hb5.cell 0); (have x1 := hb5.cell 1); (have x2 := hb5.cell 2); simp at x0 x1 x2) | (go_at_call 34; go_must (refine (hlk _ _ _ hB5).mono ?_); rintro y w6 ⟨rfl, hb6, hB6⟩) | (go_at_call 35; go_must (refine (hnx _ _ _ hB6 _ h64).mono ?_); rintro y w7 ⟨rfl, hb7, hB7⟩; (have y1 := hb7.cell 1); (have y2 := hb7.cell 2); simp at y1 y2) | (go_at_call 36; go_must (refine (hal' _ _ _ hB7).mono ?_); rintro y w71 ⟨rfl, hb71, hB71⟩; (have hF := (show Hid _ from hB71.out.still hi3 (-1)))) | (go_at_call 37; go_must (refine (hM.out.apart).mono ?_); rintro y w9 ⟨rfl, hM8⟩) | (go_at_call 38; go_must (refine (hM8.out.same hx1).mono ?_); rintro y w10 ⟨rfl, rfl⟩) | fail)
          exact ⟨⟨i + 1, by omega, by go_num, hM8.out.gs hs⟩, by simp [intOf]; omega⟩
        · have d1 : decide (d0 ≥ 1) = false := decide_eq_false e8
          go_wp2_with (first | (go_at_call 29; first | (refine hnew.mono ?_; rintro y w4 ⟨gw, cw, rfl, hb4, hB4⟩; (have v0 := hb4.cell 0); (have v1 := hb4.cell 1); (have v2 := hb4.cell 2); (have v3 := hb4.cell 3); (have v4 := hb4.cell 4); (have v5 := hb4.cell 5); simp at v0 v1 v2 v3 v4 v5) | (refine (hF.out.now).mono ?_; rintro y w8 ⟨gn, cn, zs, rfl, hM⟩)) | (go_at_call 30; go_must (refine (hhd _ _ _ hB4).mono ?_); rintro y w5 ⟨H, rfl, h64, hb5, hB5⟩; (have x0 := hb5.cell 0); (have x1 := hb5.cell 1); (have x2 := hb5.cell 2); simp at x0 x1 x2) | (go_at_call 34; go_must (refine (hlk _ _ _ hB5).mono ?_); rintro y w6 ⟨rfl, hb6, hB6⟩) | (go_at_call 35; go_must (refine (hnx _ _ _ hB6 _ h64).mono ?_); rintro y w7 ⟨rfl, hb7, hB7⟩; (have y1 := hb7.cell 1); (have y2 := hb7.cell 2); simp at y1 y2) | (go_at_call 36; go_must (refine (hal' _ _ _ hB7).mono ?_); rintro y w71 ⟨rfl, hb71, hB71⟩; (have hF := (show Hid _ from hB71.out.still hi3 (-1)))) | (go_at_call 37; go_must (refine (hM.out.apart).mono ?_); rintro y w9 ⟨rfl, hM8⟩) | (go_at_call 38; go_must (refine (hM8.out.same hx1).mono ?_); rintro y w10 ⟨rfl, rfl⟩) | fail)
          exact ⟨⟨i + 1, by omega, by go_num, hM8.out.gs hs⟩, by simp [intOf]; omega⟩
    · have hwk := fun W => wakes_any W
      have hgr : Hid (w.grownBy wr none) := hEj.out.1
      clear hO hEj hE hbg
      by_cases h1 : i < n
      · have hj2 : i = 60 := by omega
        subst hj2
        have hd1 : decide (((60 : Nat) : Int) < n) = true := decide_eq_true (by omega)
        have hl1 : (60 : Int) < n := by omega
        go_wp2_with (first | (go_at_call 17; go_must (refine (hwk _).mono ?_); rintro y w5 ⟨rfl, hf5⟩) | fail)
        go_ret
        exact ⟨rfl, gb_trans hgr.out hf5⟩
      · have hd1 : decide ((i : Int) < n) = false := decide_eq_false (by omega)
        have hl1 : ¬ (i : Int) < n := by omega
        go_wp2_with (first | (go_at_call 17; go_must (refine (hwk _).mono ?_); rintro y w5 ⟨rfl, hf5⟩) | fail)
        go_ret
        exact ⟨rfl, gb_trans hgr.out hf5⟩
end Go.Proofs.YtjkdflnnpdionaaGreat
