/-
  TideWheel's walk.
-/
import Derived.Test.YtagcmfaljfaikaaCm
namespace Go.Proofs.Ytagcmfaljfaikaa
open Go.RowKit
set_option linter.unusedVariables false

set_option maxRecDepth 100000 in
set_option maxHeartbeats 16000000 in
theorem wheel_any (w : World) (a : Option Addr) (n c : Nat) (hn : n ≤ maxLen) (hin : OpIn w a n) : Calls Try.prog 5 #[.slice a n c] w fun y w' => y = .returned (.bool true) ∧ w.grownBy w' none := by
  have HS : Hid _ := su_zero w
  have HG0 : Hid (w.grownBy ((w.alloc (.cells (bkA nilS nilS nilS nilS 0) 57)).alloc (.cells (suA (fun _ => 0) (fun _ => 0) w.heap.size 0) 63)) none) := gb_alloc (gb_alloc (gb_refl _ _) _) _
  have h21 := fun X => new_21 X
  have h13 := fun X => wakes_13 X
  go_enter Try.func5, Try.ntmps5
  go_wp2
  go_loopw [4] (fun v wr => ∃ k : Nat, k ≤ 2 ∧ v = .int .i64 k ∧ w.grownBy wr none ∧ ∃ wb rb P, Su wr w.heap.size (w.heap.size + 1) w.heap.size wb rb P k) (fun v _ => 2 - (intOf v).toNat)
  case atStart => exact ⟨0, by omega, rfl, HG0.out, _, _, _, HS.out⟩
  case round =>
    obtain ⟨k, hk, rfl, hg, wb, rb, P, hS⟩ := hrel
    clear HS HG0
    by_cases hk2 : k < 2
    · have hkb : (k : Int) < 2 := by omega
      have cw : wr.cell? ⟨w.heap.size + 1, k, none⟩ = some (.pointer none) := by
        rw [hS.box.cell k]; rcases (show k = 0 ∨ k = 1 by omega) with rfl | rfl <;> rfl
      have HSu : Hid (Su wr w.heap.size (w.heap.size + 1) w.heap.size wb rb P k) := hS
      have HG : Hid (w.grownBy wr none) := hg
      clear hS hg hin
      go_wp2
      go_region_law ((go_simp; go_at_call 21; refine (h21 _).mono ?_; rintro y w2 ⟨p, F, rfl, hg2', hF2', hW2⟩; have hg2 : wr.grownBy w2 none := gb_trans (by first | exact gb_refl _ _ | exact gb_drew (gb_refl _ _)) hg2'; have hF2 : (∀ k, F k → wr.heap.size ≤ k) := (fun k hk => hF2' k hk); have b2 := HSu.out.box.kept hg2 (by simp); have k2 : w2.cell? ⟨w.heap.size + 1, k, none⟩ = some (.pointer none) := gb_cellN hg2 cw; have f2 := b2.fz k))
      all_goals
        have b3 := (b2.set k (.pointer (some ⟨p, 0, none⟩))).kept (World.grownBy_alloc _ (.cells #[.slice none 0 0] 67) none) (by simp)
        have k3 : ((w2.setCell ⟨w.heap.size + 1, k, none⟩ (.pointer (some ⟨p, 0, none⟩))).alloc (.cells #[.slice none 0 0] 67)).cell? ⟨w.heap.size + 1, 2 + k, none⟩ = some (.pointer none) := by
          rw [b3.cell (2 + k)]; rcases (show k = 0 ∨ k = 1 by omega) with rfl | rfl <;> rfl
        have f3 := b3.fz (2 + k)
        have b5 := b3.set (2 + k) (.pointer (some ⟨w2.heap.size, 0, none⟩))
        have k5 : (((w2.setCell ⟨w.heap.size + 1, k, none⟩ (.pointer (some ⟨p, 0, none⟩))).alloc (.cells #[.slice none 0 0] 67)).setCell ⟨w.heap.size + 1, 2 + k, none⟩ (.pointer (some ⟨w2.heap.size, 0, none⟩))).cell? ⟨w.heap.size + 1, k, none⟩ = some (.pointer (some ⟨p, 0, none⟩)) := by
          rw [b5.cell k]; rcases (show k = 0 ∨ k = 1 by omega) with rfl | rfl <;> rfl
        have hfin := HSu.out.fresh hk2 hg2 hF2 hW2 (q := w2.heap.size) rfl
        have HP : Hid _ := And.intro (gb_of_kp HG.out hfin.1 (fun j hj => hj)) hfin.2
        clear hfin b5 b3 b2 hg2' hF2' hW2 hg2 hF2 k2 f2 cw HSu HG h21 h13
        go_wp2
        obtain ⟨p1, wb', rb', P', p2⟩ := HP.out
        exact ⟨⟨k + 1, by omega, by go_num, p1, wb', rb', P', p2⟩, by simp [intOf]; omega⟩
    · obtain rfl : k = 2 := by omega
      have HW : Hid _ := hS.ws
      have HG : Hid (w.grownBy wr none) := hg
      clear hS hg h21
      go_wp2
      go_loopw [5] (fun v wq => ∃ i : Nat, i ≤ n ∧ i ≤ 600 ∧ v = .int .i64 i ∧ w.grownBy wq none ∧ ∃ wb rb P l sets K, Ws wq w.heap.size (w.heap.size + 1) w.heap.size wb rb P l sets i K) (fun v _ => n - (intOf v).toNat)
      case atStart => exact ⟨0, by omega, by omega, rfl, HG.out, _, _, _, _, _, _, HW.out⟩
      case round =>
        obtain ⟨i, hi, hi6, rfl, hg, wb, rb, P, l, sets, K, hW⟩ := hrel
        clear HW HG
        by_cases hlt : i < n ∧ i < 600
        · obtain ⟨hin1, hin2⟩ := hlt
          obtain ⟨ab, oo, rfl, x0, x1, x2, x3, x4, y0, y1, y2, y3, y4, z0, z1, z2, z3, z4⟩ := hin i hin1
          have yo0 := y0
          have yo1 := y1
          have yo2 := y2
          have yo3 := y3
          have yo4 := y4
          replace y0 := gb_cellN hg y0
          replace y1 := gb_cellN hg y1
          replace y2 := gb_cellN hg y2
          replace y3 := gb_cellN hg y3
          replace y4 := gb_cellN hg y4
          have hd1 : decide ((i : Int) < n) = true := by simp; omega
          have hd2 : decide ((i : Int) < 600) = true := by simp; omega
          have hd3 : decide (i < n) = true := by simp; omega
          have hd4 : decide (i < 600) = true := by simp; omega
          have hib : (i : Int) < n := by omega
          have h22 := step_22 (hW.kept0 (gb_drew (gb_refl wr none))) (x0 := x0) (x1 := x1) (x2 := x2) (x3 := x3) (x4 := x4) (by omega) z2 z3 z4
          have HG : Hid (w.grownBy wr none) := hg
          unfold opV opA at h22
          clear hin hW hg z0 z1 z2 z3 z4 h13
          go_wp2
          have d0 := gb_cellN (gb_drew (gb_refl wr none)) y0
          have d1 := gb_cellN (gb_drew (gb_refl wr none)) y1
          have d2 := gb_cellN (gb_drew (gb_refl wr none)) y2
          have d3 := gb_cellN (gb_drew (gb_refl wr none)) y3
          have d4 := gb_cellN (gb_drew (gb_refl wr none)) y4
          refine wp_region_noPanic ?_
          refine wp_region_held_drew (S := fun W => W.cell? ⟨ab, oo + i * 5, none⟩ = some (.int .i64 x0) ∧ W.cell? ⟨ab, oo + i * 5 + 1, none⟩ = some (.int .i64 x1) ∧ W.cell? ⟨ab, oo + i * 5 + 2, none⟩ = some (.int .i64 x2) ∧ W.cell? ⟨ab, oo + i * 5 + 3, none⟩ = some (.int .i64 x3) ∧ W.cell? ⟨ab, oo + i * 5 + 4, none⟩ = some (.int .u64 x4)) (by kernel_rfl) ?_ (fun hHeld0 => ?_)
          · exact ⟨d0, d1, d2, d3, d4⟩
          refine wpAnyH_take (i := 0) (oi := { dst := some 44, op := Op.move (Operand.tmp 3), type := 47, pos := _, after := #[], guard := none }) (v := ?_) rfl (by kernel_rfl) (by kernel_rfl) (by kernel_rfl) (fun _ _ _ h => h) (Or.inl ⟨by rfl, ?_⟩) (by assumption) ?_
          rotate_left 1
          · (intro W hSw; obtain ⟨s0, s1, s2, s3, s4⟩ := hSw; go_simp; (try (with_reducible rfl)))
          try simp only [Act.put, List.setIfInBounds_toArray, List.set_cons_zero, List.set_cons_succ]
          refine wpAnyH_take (i := 1) (oi := { dst := some 45, op := Op.move (Operand.tmp 0), type := 30, pos := _, after := #[], guard := none }) (v := ?_) rfl (by kernel_rfl) (by kernel_rfl) (by kernel_rfl) (fun _ _ _ h => h) (Or.inl ⟨by rfl, ?_⟩) (by assumption) ?_
          rotate_left 1
          · (intro W hSw; obtain ⟨s0, s1, s2, s3, s4⟩ := hSw; go_simp; (try (with_reducible rfl)))
          try simp only [Act.put, List.setIfInBounds_toArray, List.set_cons_zero, List.set_cons_succ]
          refine wpAnyH_take (i := 2) (oi := { dst := some 46, op := Op.move (Operand.tmp 5), type := 3, pos := _, after := #[], guard := none }) (v := ?_) rfl (by kernel_rfl) (by kernel_rfl) (by kernel_rfl) (fun _ _ _ h => h) (Or.inl ⟨by rfl, ?_⟩) (by assumption) ?_
          rotate_left 1
          · (intro W hSw; obtain ⟨s0, s1, s2, s3, s4⟩ := hSw; go_simp; (try (with_reducible rfl)))
          try simp only [Act.put, List.setIfInBounds_toArray, List.set_cons_zero, List.set_cons_succ]
          refine wpAnyH_take (i := 3) (oi := { dst := some 47, op := Op.indexAddr 30 (Operand.tmp 45) (Operand.tmp 46), type := 0, pos := _, after := #[{ on := 1, ground := Ground.data }, { on := 2, ground := Ground.data }], guard := none }) (v := ?_) rfl (by kernel_rfl) (by kernel_rfl) (by kernel_rfl) (fun _ _ _ h => h) (Or.inl ⟨by rfl, ?_⟩) (by assumption) ?_
          rotate_left 1
          · (intro W hSw; obtain ⟨s0, s1, s2, s3, s4⟩ := hSw; go_simp; (try (with_reducible rfl)))
          try simp only [Act.put, List.setIfInBounds_toArray, List.set_cons_zero, List.set_cons_succ]
          refine wpAnyH_take (i := 4) (oi := { dst := some 48, op := Op.load 40 (Operand.tmp 47), type := 40, pos := _, after := #[{ on := 3, ground := Ground.data }], guard := none }) (v := ?_) rfl (by kernel_rfl) (by kernel_rfl) (by kernel_rfl) (fun _ _ _ h => h) (Or.inl ⟨by rfl, ?_⟩) (by assumption) ?_
          rotate_left 1
          · (intro W hSw; obtain ⟨s0, s1, s2, s3, s4⟩ := hSw; go_simp; (try (with_reducible rfl)))
          try simp only [Act.put, List.setIfInBounds_toArray, List.set_cons_zero, List.set_cons_succ]
          refine wpAnyH_ready (rs := [5]) (by kernel_rfl) (by simp) ?_
          refine AllReadyH.cons rfl (fun K hK => ?_) AllReadyH.nil
          go_simp
          go_at_call 22
          refine h22.mono ?_
          rintro y w3 ⟨rfl, hk3, wb3, rb3, P3, l3, s3, K3, hK3, hW3⟩
          have hgw3 := gb_of_kp (gb_drew HG.out) hk3 (fun j hj => hj)
          have q0 := gb_cellN hgw3 yo0
          have q1 := gb_cellN hgw3 yo1
          have q2 := gb_cellN hgw3 yo2
          have q3 := gb_cellN hgw3 yo3
          have q4 := gb_cellN hgw3 yo4
          try simp only []
          refine hK.out _ _ ?_ (fun hHeld1 => ?_)
          · exact ⟨q0, q1, q2, q3, q4⟩
          clear hK K hHeld0
          have c0 : w3.cell? ⟨w.heap.size + 1, 0, none⟩ = some (.pointer (some ⟨wb3 0, 0, none⟩)) := hW3.box.cell 0
          have c1 : w3.cell? ⟨w.heap.size + 1, 1, none⟩ = some (.pointer (some ⟨wb3 1, 0, none⟩)) := hW3.box.cell 1
          have c2 : w3.cell? ⟨w.heap.size + 1, 2, none⟩ = some (.pointer (some ⟨rb3 0, 0, none⟩)) := hW3.box.cell 2
          have c3 : w3.cell? ⟨w.heap.size + 1, 3, none⟩ = some (.pointer (some ⟨rb3 1, 0, none⟩)) := hW3.box.cell 3
          obtain ⟨lv0, hR0⟩ := (hW3.pr 0 (by omega)).rw_
          obtain ⟨lv1, hR1⟩ := (hW3.pr 1 (by omega)).rw_
          obtain ⟨g0, r0, hq0, _, _, _, _⟩ := row_shape hR0.row
          obtain ⟨g1, r1, hq1, _, _, _, _⟩ := row_shape hR1.row
          subst hq0
          subst hq1
          have e0 := hR0.c0
          have e1 := hR1.c0
          have hL0 := (hW3.pr 0 (by omega)).len
          have hL1 := (hW3.pr 1 (by omega)).len
          have hb0 := hW3.big 0 (by omega)
          have hb1 := hW3.big 1 (by omega)
          have h23a := len_23 (hW3.pr 0 (by omega)).wh (by omega)
          have h23b := len_23 (hW3.pr 1 (by omega)).wh (by omega)
          try simp only [Act.put, List.setIfInBounds_toArray, List.set_cons_zero, List.set_cons_succ]
          refine wpAnyH_mono (S' := fun W => (W.cell? ⟨ab, oo + i * 5, none⟩ = some (.int .i64 x0) ∧ W.cell? ⟨ab, oo + i * 5 + 1, none⟩ = some (.int .i64 x1) ∧ W.cell? ⟨ab, oo + i * 5 + 2, none⟩ = some (.int .i64 x2) ∧ W.cell? ⟨ab, oo + i * 5 + 3, none⟩ = some (.int .i64 x3) ∧ W.cell? ⟨ab, oo + i * 5 + 4, none⟩ = some (.int .u64 x4)) ∧ W.cell? ⟨w.heap.size + 1, 0, none⟩ = some (.pointer (some ⟨wb3 0, 0, none⟩)) ∧ W.cell? ⟨w.heap.size + 1, 1, none⟩ = some (.pointer (some ⟨wb3 1, 0, none⟩)) ∧ W.cell? ⟨w.heap.size + 1, 2, none⟩ = some (.pointer (some ⟨rb3 0, 0, none⟩)) ∧ W.cell? ⟨w.heap.size + 1, 3, none⟩ = some (.pointer (some ⟨rb3 1, 0, none⟩)) ∧ W.cell? ⟨rb3 0, 0, none⟩ = some (.slice g0 (l3 0).length r0) ∧ W.cell? ⟨rb3 1, 0, none⟩ = some (.slice g1 (l3 1).length r1)) (fun W h => h.1) _ _ _ _ ?_
          have hHeld2 : (fun W : World => (W.cell? ⟨ab, oo + i * 5, none⟩ = some (.int .i64 x0) ∧ W.cell? ⟨ab, oo + i * 5 + 1, none⟩ = some (.int .i64 x1) ∧ W.cell? ⟨ab, oo + i * 5 + 2, none⟩ = some (.int .i64 x2) ∧ W.cell? ⟨ab, oo + i * 5 + 3, none⟩ = some (.int .i64 x3) ∧ W.cell? ⟨ab, oo + i * 5 + 4, none⟩ = some (.int .u64 x4)) ∧ W.cell? ⟨w.heap.size + 1, 0, none⟩ = some (.pointer (some ⟨wb3 0, 0, none⟩)) ∧ W.cell? ⟨w.heap.size + 1, 1, none⟩ = some (.pointer (some ⟨wb3 1, 0, none⟩)) ∧ W.cell? ⟨w.heap.size + 1, 2, none⟩ = some (.pointer (some ⟨rb3 0, 0, none⟩)) ∧ W.cell? ⟨w.heap.size + 1, 3, none⟩ = some (.pointer (some ⟨rb3 1, 0, none⟩)) ∧ W.cell? ⟨rb3 0, 0, none⟩ = some (.slice g0 (l3 0).length r0) ∧ W.cell? ⟨rb3 1, 0, none⟩ = some (.slice g1 (l3 1).length r1)) w3 := ⟨⟨q0, q1, q2, q3, q4⟩, c0, c1, c2, c3, e0, e1⟩
          clear hHeld1
          refine wpAnyH_take (i := 6) (oi := { dst := some 50, op := Op.unOp UnOp.not 4 (Operand.tmp 49), type := 4, pos := _, after := #[{ on := 5, ground := Ground.data }], guard := none }) (v := ?_) rfl (by kernel_rfl) (by kernel_rfl) (by kernel_rfl) (fun _ _ _ h => h) (Or.inl ⟨by rfl, ?_⟩) (by assumption) ?_
          rotate_left 1
          · (intro W hSw; obtain ⟨⟨s0, s1, s2, s3, s4⟩, s5, s6, s7, s8, s9, s10⟩ := hSw; go_simp; (try (with_reducible rfl)))
          try simp only [Act.put, List.setIfInBounds_toArray, List.set_cons_zero, List.set_cons_succ]
          refine wpAnyH_take (i := 7) (oi := { dst := some 51, op := Op.move (Operand.tmp 50), type := 4, pos := _, after := #[{ on := 6, ground := Ground.data }, { on := 5, ground := Ground.chain }], guard := none }) (v := ?_) rfl (by kernel_rfl) (by kernel_rfl) (by kernel_rfl) (fun _ _ _ h => h) (Or.inl ⟨by rfl, ?_⟩) (by assumption) ?_
          rotate_left 1
          · (intro W hSw; obtain ⟨⟨s0, s1, s2, s3, s4⟩, s5, s6, s7, s8, s9, s10⟩ := hSw; go_simp; (try (with_reducible rfl)))
          try simp only [Act.put, List.setIfInBounds_toArray, List.set_cons_zero, List.set_cons_succ]
          refine wpAnyH_take (i := 8) (oi := { dst := some 52, op := Op.move (Operand.tmp 3), type := 47, pos := _, after := #[{ on := 7, ground := Ground.guard }], guard := some (7, false) }) (v := ?_) rfl (by kernel_rfl) (by kernel_rfl) (by kernel_rfl) (fun _ _ _ h => h) (Or.inl ⟨by rfl, ?_⟩) (by assumption) ?_
          rotate_left 1
          · (intro W hSw; obtain ⟨⟨s0, s1, s2, s3, s4⟩, s5, s6, s7, s8, s9, s10⟩ := hSw; go_simp; (try (with_reducible rfl)))
          try simp only [Act.put, List.setIfInBounds_toArray, List.set_cons_zero, List.set_cons_succ]
          refine wpAnyH_take (i := 9) (oi := { dst := some 53, op := Op.nilCheck (Operand.tmp 52), type := 0, pos := _, after := #[{ on := 8, ground := Ground.data }, { on := 7, ground := Ground.guard }], guard := some (7, false) }) (v := ?_) rfl (by kernel_rfl) (by kernel_rfl) (by kernel_rfl) (fun _ _ _ h => h) (Or.inl ⟨by rfl, ?_⟩) (by assumption) ?_
          rotate_left 1
          · (intro W hSw; obtain ⟨⟨s0, s1, s2, s3, s4⟩, s5, s6, s7, s8, s9, s10⟩ := hSw; go_simp; (try (with_reducible rfl)))
          try simp only [Act.put, List.setIfInBounds_toArray, List.set_cons_zero, List.set_cons_succ]
          refine wpAnyH_take (i := 10) (oi := { dst := some 54, op := Op.fieldAddr 63 (Operand.tmp 53) 0, type := 0, pos := _, after := #[{ on := 9, ground := Ground.data }, { on := 7, ground := Ground.guard }], guard := some (7, false) }) (v := ?_) rfl (by kernel_rfl) (by kernel_rfl) (by kernel_rfl) (fun _ _ _ h => h) (Or.inl ⟨by rfl, ?_⟩) (by assumption) ?_
          rotate_left 1
          · (intro W hSw; obtain ⟨⟨s0, s1, s2, s3, s4⟩, s5, s6, s7, s8, s9, s10⟩ := hSw; go_simp; (try (with_reducible rfl)))
          try simp only [Act.put, List.setIfInBounds_toArray, List.set_cons_zero, List.set_cons_succ]
          refine wpAnyH_take (i := 11) (oi := { dst := some 55, op := Op.indexAddr 59 (Operand.tmp 54) (Operand.const (Value.int IntKind.i64 0)), type := 0, pos := _, after := #[{ on := 10, ground := Ground.data }, { on := 7, ground := Ground.guard }], guard := some (7, false) }) (v := ?_) rfl (by kernel_rfl) (by kernel_rfl) (by kernel_rfl) (fun _ _ _ h => h) (Or.inl ⟨by rfl, ?_⟩) (by assumption) ?_
          rotate_left 1
          · (intro W hSw; obtain ⟨⟨s0, s1, s2, s3, s4⟩, s5, s6, s7, s8, s9, s10⟩ := hSw; go_simp; (try (with_reducible rfl)))
          try simp only [Act.put, List.setIfInBounds_toArray, List.set_cons_zero, List.set_cons_succ]
          refine wpAnyH_take (i := 12) (oi := { dst := some 56, op := Op.load 58 (Operand.tmp 55), type := 58, pos := _, after := #[{ on := 11, ground := Ground.data }, { on := 7, ground := Ground.guard }], guard := some (7, false) }) (v := ?_) rfl (by kernel_rfl) (by kernel_rfl) (by kernel_rfl) (fun _ _ _ h => h) (Or.inl ⟨by rfl, ?_⟩) (by assumption) ?_
          rotate_left 1
          · (intro W hSw; obtain ⟨⟨s0, s1, s2, s3, s4⟩, s5, s6, s7, s8, s9, s10⟩ := hSw; go_simp; (try (with_reducible rfl)))
          try simp only [Act.put, List.setIfInBounds_toArray, List.set_cons_zero, List.set_cons_succ]
          refine wpAnyH_take (i := 14) (oi := { dst := some 58, op := Op.move (Operand.tmp 3), type := 47, pos := _, after := #[{ on := 7, ground := Ground.guard }], guard := some (7, false) }) (v := ?_) rfl (by kernel_rfl) (by kernel_rfl) (by kernel_rfl) (fun _ _ _ h => h) (Or.inl ⟨by rfl, ?_⟩) (by assumption) ?_
          rotate_left 1
          · (intro W hSw; obtain ⟨⟨s0, s1, s2, s3, s4⟩, s5, s6, s7, s8, s9, s10⟩ := hSw; go_simp; (try (with_reducible rfl)))
          try simp only [Act.put, List.setIfInBounds_toArray, List.set_cons_zero, List.set_cons_succ]
          refine wpAnyH_take (i := 15) (oi := { dst := some 59, op := Op.nilCheck (Operand.tmp 58), type := 0, pos := _, after := #[{ on := 14, ground := Ground.data }, { on := 7, ground := Ground.guard }], guard := some (7, false) }) (v := ?_) rfl (by kernel_rfl) (by kernel_rfl) (by kernel_rfl) (fun _ _ _ h => h) (Or.inl ⟨by rfl, ?_⟩) (by assumption) ?_
          rotate_left 1
          · (intro W hSw; obtain ⟨⟨s0, s1, s2, s3, s4⟩, s5, s6, s7, s8, s9, s10⟩ := hSw; go_simp; (try (with_reducible rfl)))
          try simp only [Act.put, List.setIfInBounds_toArray, List.set_cons_zero, List.set_cons_succ]
          refine wpAnyH_take (i := 16) (oi := { dst := some 60, op := Op.fieldAddr 63 (Operand.tmp 59) 1, type := 0, pos := _, after := #[{ on := 15, ground := Ground.data }, { on := 7, ground := Ground.guard }], guard := some (7, false) }) (v := ?_) rfl (by kernel_rfl) (by kernel_rfl) (by kernel_rfl) (fun _ _ _ h => h) (Or.inl ⟨by rfl, ?_⟩) (by assumption) ?_
          rotate_left 1
          · (intro W hSw; obtain ⟨⟨s0, s1, s2, s3, s4⟩, s5, s6, s7, s8, s9, s10⟩ := hSw; go_simp; (try (with_reducible rfl)))
          try simp only [Act.put, List.setIfInBounds_toArray, List.set_cons_zero, List.set_cons_succ]
          refine wpAnyH_take (i := 17) (oi := { dst := some 61, op := Op.indexAddr 61 (Operand.tmp 60) (Operand.const (Value.int IntKind.i64 0)), type := 0, pos := _, after := #[{ on := 16, ground := Ground.data }, { on := 7, ground := Ground.guard }], guard := some (7, false) }) (v := ?_) rfl (by kernel_rfl) (by kernel_rfl) (by kernel_rfl) (fun _ _ _ h => h) (Or.inl ⟨by rfl, ?_⟩) (by assumption) ?_
          rotate_left 1
          · (intro W hSw; obtain ⟨⟨s0, s1, s2, s3, s4⟩, s5, s6, s7, s8, s9, s10⟩ := hSw; go_simp; (try (with_reducible rfl)))
          try simp only [Act.put, List.setIfInBounds_toArray, List.set_cons_zero, List.set_cons_succ]
          refine wpAnyH_take (i := 18) (oi := { dst := some 62, op := Op.load 60 (Operand.tmp 61), type := 60, pos := _, after := #[{ on := 17, ground := Ground.data }, { on := 7, ground := Ground.guard }], guard := some (7, false) }) (v := ?_) rfl (by kernel_rfl) (by kernel_rfl) (by kernel_rfl) (fun _ _ _ h => h) (Or.inl ⟨by rfl, ?_⟩) (by assumption) ?_
          rotate_left 1
          · (intro W hSw; obtain ⟨⟨s0, s1, s2, s3, s4⟩, s5, s6, s7, s8, s9, s10⟩ := hSw; go_simp; (try (with_reducible rfl)))
          try simp only [Act.put, List.setIfInBounds_toArray, List.set_cons_zero, List.set_cons_succ]
          refine wpAnyH_take (i := 19) (oi := { dst := some 63, op := Op.nilCheck (Operand.tmp 62), type := 0, pos := _, after := #[{ on := 18, ground := Ground.data }, { on := 7, ground := Ground.guard }], guard := some (7, false) }) (v := ?_) rfl (by kernel_rfl) (by kernel_rfl) (by kernel_rfl) (fun _ _ _ h => h) (Or.inl ⟨by rfl, ?_⟩) (by assumption) ?_
          rotate_left 1
          · (intro W hSw; obtain ⟨⟨s0, s1, s2, s3, s4⟩, s5, s6, s7, s8, s9, s10⟩ := hSw; go_simp; (try (with_reducible rfl)))
          try simp only [Act.put, List.setIfInBounds_toArray, List.set_cons_zero, List.set_cons_succ]
          refine wpAnyH_take (i := 20) (oi := { dst := some 64, op := Op.fieldAddr 67 (Operand.tmp 63) 0, type := 0, pos := _, after := #[{ on := 19, ground := Ground.data }, { on := 7, ground := Ground.guard }], guard := some (7, false) }) (v := ?_) rfl (by kernel_rfl) (by kernel_rfl) (by kernel_rfl) (fun _ _ _ h => h) (Or.inl ⟨by rfl, ?_⟩) (by assumption) ?_
          rotate_left 1
          · (intro W hSw; obtain ⟨⟨s0, s1, s2, s3, s4⟩, s5, s6, s7, s8, s9, s10⟩ := hSw; go_simp; (try (with_reducible rfl)))
          try simp only [Act.put, List.setIfInBounds_toArray, List.set_cons_zero, List.set_cons_succ]
          refine wpAnyH_take (i := 21) (oi := { dst := some 65, op := Op.load 65 (Operand.tmp 64), type := 65, pos := _, after := #[{ on := 20, ground := Ground.data }, { on := 7, ground := Ground.guard }], guard := some (7, false) }) (v := ?_) rfl (by kernel_rfl) (by kernel_rfl) (by kernel_rfl) (fun _ _ _ h => h) (Or.inl ⟨by rfl, ?_⟩) (by assumption) ?_
          rotate_left 1
          · (intro W hSw; obtain ⟨⟨s0, s1, s2, s3, s4⟩, s5, s6, s7, s8, s9, s10⟩ := hSw; go_simp; (try (with_reducible rfl)))
          try simp only [Act.put, List.setIfInBounds_toArray, List.set_cons_zero, List.set_cons_succ]
          refine wpAnyH_take (i := 22) (oi := { dst := some 66, op := Op.call { callee := Callee.builtin Builtin.len, args := #[Operand.tmp 65], argTypes := #[65] }, type := 3, pos := _, after := #[{ on := 21, ground := Ground.data }, { on := 7, ground := Ground.guard }], guard := some (7, false) }) (v := ?_) rfl (by kernel_rfl) (by kernel_rfl) (by kernel_rfl) (fun _ _ _ h => h) (Or.inl ⟨by rfl, ?_⟩) (by assumption) ?_
          rotate_left 1
          · (intro W hSw; obtain ⟨⟨s0, s1, s2, s3, s4⟩, s5, s6, s7, s8, s9, s10⟩ := hSw; go_simp; (try (with_reducible rfl)))
          try simp only [Act.put, List.setIfInBounds_toArray, List.set_cons_zero, List.set_cons_succ]
          refine wpAnyH_ready (rs := [13]) (by kernel_rfl) (by simp) ?_
          refine AllReadyH.cons rfl (fun K hK => ?_) AllReadyH.nil
          go_simp
          go_at_call 23
          refine h23a.mono ?_
          rintro y w4 ⟨rfl, hw4⟩
          have hw5 := hw4.symm
          subst hw5
          try simp only []
          refine hK.out _ _ ?_ (fun hHeld3 => ?_)
          · exact hHeld2
          clear hK K
          try simp only [Act.put, List.setIfInBounds_toArray, List.set_cons_zero, List.set_cons_succ]
          refine wpAnyH_take (i := 23) (oi := { dst := some 67, op := Op.binOp BinOp.neq 3 (Operand.tmp 57) (Operand.tmp 66) 3, type := 4, pos := _, after := #[{ on := 13, ground := Ground.data }, { on := 22, ground := Ground.data }, { on := 7, ground := Ground.guard }], guard := some (7, false) }) (v := ?_) rfl (by kernel_rfl) (by kernel_rfl) (by kernel_rfl) (fun _ _ _ h => h) (Or.inl ⟨by rfl, ?_⟩) (by assumption) ?_
          rotate_left 1
          · (intro W hSw; obtain ⟨⟨s0, s1, s2, s3, s4⟩, s5, s6, s7, s8, s9, s10⟩ := hSw; go_simp; (try (with_reducible rfl)))
          try simp only [Act.put, List.setIfInBounds_toArray, List.set_cons_zero, List.set_cons_succ]
          refine wpAnyH_take (i := 24) (oi := { dst := some 68, op := Op.pick (Operand.tmp 51) (Operand.const (Value.bool true)) (Operand.tmp 67), type := 4, pos := _, after := #[{ on := 7, ground := Ground.data }, { on := 23, ground := Ground.data }], guard := none }) (v := ?_) rfl (by kernel_rfl) (by kernel_rfl) (by kernel_rfl) (fun _ _ _ h => h) (Or.inl ⟨by rfl, ?_⟩) (by assumption) ?_
          rotate_left 1
          · (intro W hSw; obtain ⟨⟨s0, s1, s2, s3, s4⟩, s5, s6, s7, s8, s9, s10⟩ := hSw; go_simp; (try (with_reducible rfl)))
          try simp only [Act.put, List.setIfInBounds_toArray, List.set_cons_zero, List.set_cons_succ]
          refine wpAnyH_take (i := 25) (oi := { dst := some 69, op := Op.move (Operand.tmp 68), type := 4, pos := _, after := #[{ on := 24, ground := Ground.data }, { on := 13, ground := Ground.chain }], guard := none }) (v := ?_) rfl (by kernel_rfl) (by kernel_rfl) (by kernel_rfl) (fun _ _ _ h => h) (Or.inl ⟨by rfl, ?_⟩) (by assumption) ?_
          rotate_left 1
          · (intro W hSw; obtain ⟨⟨s0, s1, s2, s3, s4⟩, s5, s6, s7, s8, s9, s10⟩ := hSw; go_simp; (try (with_reducible rfl)))
          try simp only [Act.put, List.setIfInBounds_toArray, List.set_cons_zero, List.set_cons_succ]
          refine wpAnyH_take (i := 26) (oi := { dst := some 70, op := Op.move (Operand.tmp 3), type := 47, pos := _, after := #[{ on := 25, ground := Ground.guard }], guard := some (25, false) }) (v := ?_) rfl (by kernel_rfl) (by kernel_rfl) (by kernel_rfl) (fun _ _ _ h => h) (Or.inl ⟨by rfl, ?_⟩) (by assumption) ?_
          rotate_left 1
          · (intro W hSw; obtain ⟨⟨s0, s1, s2, s3, s4⟩, s5, s6, s7, s8, s9, s10⟩ := hSw; go_simp; (try (with_reducible rfl)))
          try simp only [Act.put, List.setIfInBounds_toArray, List.set_cons_zero, List.set_cons_succ]
          refine wpAnyH_take (i := 27) (oi := { dst := some 71, op := Op.nilCheck (Operand.tmp 70), type := 0, pos := _, after := #[{ on := 26, ground := Ground.data }, { on := 25, ground := Ground.guard }], guard := some (25, false) }) (v := ?_) rfl (by kernel_rfl) (by kernel_rfl) (by kernel_rfl) (fun _ _ _ h => h) (Or.inl ⟨by rfl, ?_⟩) (by assumption) ?_
          rotate_left 1
          · (intro W hSw; obtain ⟨⟨s0, s1, s2, s3, s4⟩, s5, s6, s7, s8, s9, s10⟩ := hSw; go_simp; (try (with_reducible rfl)))
          try simp only [Act.put, List.setIfInBounds_toArray, List.set_cons_zero, List.set_cons_succ]
          refine wpAnyH_take (i := 28) (oi := { dst := some 72, op := Op.fieldAddr 63 (Operand.tmp 71) 0, type := 0, pos := _, after := #[{ on := 27, ground := Ground.data }, { on := 25, ground := Ground.guard }], guard := some (25, false) }) (v := ?_) rfl (by kernel_rfl) (by kernel_rfl) (by kernel_rfl) (fun _ _ _ h => h) (Or.inl ⟨by rfl, ?_⟩) (by assumption) ?_
          rotate_left 1
          · (intro W hSw; obtain ⟨⟨s0, s1, s2, s3, s4⟩, s5, s6, s7, s8, s9, s10⟩ := hSw; go_simp; (try (with_reducible rfl)))
          try simp only [Act.put, List.setIfInBounds_toArray, List.set_cons_zero, List.set_cons_succ]
          refine wpAnyH_take (i := 29) (oi := { dst := some 73, op := Op.indexAddr 59 (Operand.tmp 72) (Operand.const (Value.int IntKind.i64 1)), type := 0, pos := _, after := #[{ on := 28, ground := Ground.data }, { on := 25, ground := Ground.guard }], guard := some (25, false) }) (v := ?_) rfl (by kernel_rfl) (by kernel_rfl) (by kernel_rfl) (fun _ _ _ h => h) (Or.inl ⟨by rfl, ?_⟩) (by assumption) ?_
          rotate_left 1
          · (intro W hSw; obtain ⟨⟨s0, s1, s2, s3, s4⟩, s5, s6, s7, s8, s9, s10⟩ := hSw; go_simp; (try (with_reducible rfl)))
          try simp only [Act.put, List.setIfInBounds_toArray, List.set_cons_zero, List.set_cons_succ]
          refine wpAnyH_take (i := 30) (oi := { dst := some 74, op := Op.load 58 (Operand.tmp 73), type := 58, pos := _, after := #[{ on := 29, ground := Ground.data }, { on := 25, ground := Ground.guard }], guard := some (25, false) }) (v := ?_) rfl (by kernel_rfl) (by kernel_rfl) (by kernel_rfl) (fun _ _ _ h => h) (Or.inl ⟨by rfl, ?_⟩) (by assumption) ?_
          rotate_left 1
          · (intro W hSw; obtain ⟨⟨s0, s1, s2, s3, s4⟩, s5, s6, s7, s8, s9, s10⟩ := hSw; go_simp; (try (with_reducible rfl)))
          try simp only [Act.put, List.setIfInBounds_toArray, List.set_cons_zero, List.set_cons_succ]
          refine wpAnyH_take (i := 32) (oi := { dst := some 76, op := Op.move (Operand.tmp 3), type := 47, pos := _, after := #[{ on := 25, ground := Ground.guard }], guard := some (25, false) }) (v := ?_) rfl (by kernel_rfl) (by kernel_rfl) (by kernel_rfl) (fun _ _ _ h => h) (Or.inl ⟨by rfl, ?_⟩) (by assumption) ?_
          rotate_left 1
          · (intro W hSw; obtain ⟨⟨s0, s1, s2, s3, s4⟩, s5, s6, s7, s8, s9, s10⟩ := hSw; go_simp; (try (with_reducible rfl)))
          try simp only [Act.put, List.setIfInBounds_toArray, List.set_cons_zero, List.set_cons_succ]
          refine wpAnyH_take (i := 33) (oi := { dst := some 77, op := Op.nilCheck (Operand.tmp 76), type := 0, pos := _, after := #[{ on := 32, ground := Ground.data }, { on := 25, ground := Ground.guard }], guard := some (25, false) }) (v := ?_) rfl (by kernel_rfl) (by kernel_rfl) (by kernel_rfl) (fun _ _ _ h => h) (Or.inl ⟨by rfl, ?_⟩) (by assumption) ?_
          rotate_left 1
          · (intro W hSw; obtain ⟨⟨s0, s1, s2, s3, s4⟩, s5, s6, s7, s8, s9, s10⟩ := hSw; go_simp; (try (with_reducible rfl)))
          try simp only [Act.put, List.setIfInBounds_toArray, List.set_cons_zero, List.set_cons_succ]
          refine wpAnyH_take (i := 34) (oi := { dst := some 78, op := Op.fieldAddr 63 (Operand.tmp 77) 1, type := 0, pos := _, after := #[{ on := 33, ground := Ground.data }, { on := 25, ground := Ground.guard }], guard := some (25, false) }) (v := ?_) rfl (by kernel_rfl) (by kernel_rfl) (by kernel_rfl) (fun _ _ _ h => h) (Or.inl ⟨by rfl, ?_⟩) (by assumption) ?_
          rotate_left 1
          · (intro W hSw; obtain ⟨⟨s0, s1, s2, s3, s4⟩, s5, s6, s7, s8, s9, s10⟩ := hSw; go_simp; (try (with_reducible rfl)))
          try simp only [Act.put, List.setIfInBounds_toArray, List.set_cons_zero, List.set_cons_succ]
          refine wpAnyH_take (i := 35) (oi := { dst := some 79, op := Op.indexAddr 61 (Operand.tmp 78) (Operand.const (Value.int IntKind.i64 1)), type := 0, pos := _, after := #[{ on := 34, ground := Ground.data }, { on := 25, ground := Ground.guard }], guard := some (25, false) }) (v := ?_) rfl (by kernel_rfl) (by kernel_rfl) (by kernel_rfl) (fun _ _ _ h => h) (Or.inl ⟨by rfl, ?_⟩) (by assumption) ?_
          rotate_left 1
          · (intro W hSw; obtain ⟨⟨s0, s1, s2, s3, s4⟩, s5, s6, s7, s8, s9, s10⟩ := hSw; go_simp; (try (with_reducible rfl)))
          try simp only [Act.put, List.setIfInBounds_toArray, List.set_cons_zero, List.set_cons_succ]
          refine wpAnyH_take (i := 36) (oi := { dst := some 80, op := Op.load 60 (Operand.tmp 79), type := 60, pos := _, after := #[{ on := 35, ground := Ground.data }, { on := 25, ground := Ground.guard }], guard := some (25, false) }) (v := ?_) rfl (by kernel_rfl) (by kernel_rfl) (by kernel_rfl) (fun _ _ _ h => h) (Or.inl ⟨by rfl, ?_⟩) (by assumption) ?_
          rotate_left 1
          · (intro W hSw; obtain ⟨⟨s0, s1, s2, s3, s4⟩, s5, s6, s7, s8, s9, s10⟩ := hSw; go_simp; (try (with_reducible rfl)))
          try simp only [Act.put, List.setIfInBounds_toArray, List.set_cons_zero, List.set_cons_succ]
          refine wpAnyH_take (i := 37) (oi := { dst := some 81, op := Op.nilCheck (Operand.tmp 80), type := 0, pos := _, after := #[{ on := 36, ground := Ground.data }, { on := 25, ground := Ground.guard }], guard := some (25, false) }) (v := ?_) rfl (by kernel_rfl) (by kernel_rfl) (by kernel_rfl) (fun _ _ _ h => h) (Or.inl ⟨by rfl, ?_⟩) (by assumption) ?_
          rotate_left 1
          · (intro W hSw; obtain ⟨⟨s0, s1, s2, s3, s4⟩, s5, s6, s7, s8, s9, s10⟩ := hSw; go_simp; (try (with_reducible rfl)))
          try simp only [Act.put, List.setIfInBounds_toArray, List.set_cons_zero, List.set_cons_succ]
          refine wpAnyH_take (i := 38) (oi := { dst := some 82, op := Op.fieldAddr 67 (Operand.tmp 81) 0, type := 0, pos := _, after := #[{ on := 37, ground := Ground.data }, { on := 25, ground := Ground.guard }], guard := some (25, false) }) (v := ?_) rfl (by kernel_rfl) (by kernel_rfl) (by kernel_rfl) (fun _ _ _ h => h) (Or.inl ⟨by rfl, ?_⟩) (by assumption) ?_
          rotate_left 1
          · (intro W hSw; obtain ⟨⟨s0, s1, s2, s3, s4⟩, s5, s6, s7, s8, s9, s10⟩ := hSw; go_simp; (try (with_reducible rfl)))
          try simp only [Act.put, List.setIfInBounds_toArray, List.set_cons_zero, List.set_cons_succ]
          refine wpAnyH_take (i := 39) (oi := { dst := some 83, op := Op.load 65 (Operand.tmp 82), type := 65, pos := _, after := #[{ on := 38, ground := Ground.data }, { on := 25, ground := Ground.guard }], guard := some (25, false) }) (v := ?_) rfl (by kernel_rfl) (by kernel_rfl) (by kernel_rfl) (fun _ _ _ h => h) (Or.inl ⟨by rfl, ?_⟩) (by assumption) ?_
          rotate_left 1
          · (intro W hSw; obtain ⟨⟨s0, s1, s2, s3, s4⟩, s5, s6, s7, s8, s9, s10⟩ := hSw; go_simp; (try (with_reducible rfl)))
          try simp only [Act.put, List.setIfInBounds_toArray, List.set_cons_zero, List.set_cons_succ]
          refine wpAnyH_take (i := 40) (oi := { dst := some 84, op := Op.call { callee := Callee.builtin Builtin.len, args := #[Operand.tmp 83], argTypes := #[65] }, type := 3, pos := _, after := #[{ on := 39, ground := Ground.data }, { on := 25, ground := Ground.guard }], guard := some (25, false) }) (v := ?_) rfl (by kernel_rfl) (by kernel_rfl) (by kernel_rfl) (fun _ _ _ h => h) (Or.inl ⟨by rfl, ?_⟩) (by assumption) ?_
          rotate_left 1
          · (intro W hSw; obtain ⟨⟨s0, s1, s2, s3, s4⟩, s5, s6, s7, s8, s9, s10⟩ := hSw; go_simp; (try (with_reducible rfl)))
          try simp only [Act.put, List.setIfInBounds_toArray, List.set_cons_zero, List.set_cons_succ]
          refine wpAnyH_ready (rs := [31]) (by kernel_rfl) (by simp) ?_
          refine AllReadyH.cons rfl (fun K hK => ?_) AllReadyH.nil
          go_simp
          go_at_call 23
          refine h23b.mono ?_
          rintro y w4 ⟨rfl, hw4⟩
          have hw5 := hw4.symm
          subst hw5
          try simp only []
          refine hK.out _ _ ?_ (fun hHeld4 => ?_)
          · exact hHeld2
          clear hK K
          try simp only [Act.put, List.setIfInBounds_toArray, List.set_cons_zero, List.set_cons_succ]
          refine wpAnyH_take (i := 41) (oi := { dst := some 85, op := Op.binOp BinOp.neq 3 (Operand.tmp 75) (Operand.tmp 84) 3, type := 4, pos := _, after := #[{ on := 31, ground := Ground.data }, { on := 40, ground := Ground.data }, { on := 25, ground := Ground.guard }], guard := some (25, false) }) (v := ?_) rfl (by kernel_rfl) (by kernel_rfl) (by kernel_rfl) (fun _ _ _ h => h) (Or.inl ⟨by rfl, ?_⟩) (by assumption) ?_
          rotate_left 1
          · (intro W hSw; obtain ⟨⟨s0, s1, s2, s3, s4⟩, s5, s6, s7, s8, s9, s10⟩ := hSw; go_simp; (try (with_reducible rfl)))
          try simp only [Act.put, List.setIfInBounds_toArray, List.set_cons_zero, List.set_cons_succ]
          refine wpAnyH_take (i := 42) (oi := { dst := some 86, op := Op.pick (Operand.tmp 69) (Operand.const (Value.bool true)) (Operand.tmp 85), type := 4, pos := _, after := #[{ on := 25, ground := Ground.data }, { on := 41, ground := Ground.data }], guard := none }) (v := ?_) rfl (by kernel_rfl) (by kernel_rfl) (by kernel_rfl) (fun _ _ _ h => h) (Or.inl ⟨by rfl, ?_⟩) (by assumption) ?_
          rotate_left 1
          · (intro W hSw; obtain ⟨⟨s0, s1, s2, s3, s4⟩, s5, s6, s7, s8, s9, s10⟩ := hSw; go_simp; (try (with_reducible rfl)))
          try simp only [Act.put, List.setIfInBounds_toArray, List.set_cons_zero, List.set_cons_succ]
          refine wpAnyH_done (by kernel_rfl) ?_ _
          refine NoPanic.normal ?_
          have HP : Hid _ := And.intro hgw3 hW3
          clear h22 h23a h23b c0 c1 c2 c3 hR0 hR1 e0 e1 hk3 hW3 hgw3 HG y0 y1 y2 y3 y4 yo0 yo1 yo2 yo3 yo4 d0 d1 d2 d3 d4 q0 q1 q2 q3 q4 hHeld2 hHeld3 hHeld4
          go_wp2
          exact ⟨⟨i + 1, by omega, by omega, by go_num, HP.out.1, _, _, _, _, _, _, HP.out.2⟩, by simp [intOf]; omega⟩
        · have hd : (decide ((i : Int) < n) && decide ((i : Int) < 600)) = false := by simp; omega
          obtain ⟨hv, wv, nn, V, W, D, hB⟩ := hW.bk
          have hkn := hW.kn
          have h24 := close_24 hB (by omega)
          have c4 : wr.cell? ⟨w.heap.size + 1, 4, none⟩ = some (.pointer (some ⟨w.heap.size, 0, none⟩)) := hW.box.cell 4
          have HG : Hid (w.grownBy wr none) := hg
          have HL : Hid (∀ k, P 4 k → w.heap.size ≤ k) := hW.lo 4
          clear hin hW hg hB
          have hstop : ¬ (i < n ∧ i < 600) := hlt
          have HF : Hid (∀ w5 w6, Kp (P 4) wr w5 → w5.grownBy w6 none → w.grownBy w6 none) := fun w5 w6 h1 h2 => gb_trans (gb_of_kp HG.out h1 HL.out) h2
          by_cases hn2 : i < n
          · have hd1 : decide ((i : Int) < n) = true := by simp; omega
            have hd2 : decide ((i : Int) < 600) = false := by simp; omega
            have hd3 : decide (i < n) = true := by simp; omega
            have hd4 : decide (i < 600) = false := by simp; omega
            clear HG HL hd hlt hstop
            go_wp2_with (first | (go_at_call 24; go_must (refine h24.mono ?_); rintro y w5 ⟨rfl, hk5⟩; have h13b := h13 w5; clear h24 c4) | (go_at_call 13; go_must (refine h13b.mono ?_); rintro y w6 ⟨rfl, hg6⟩) | fail)
            go_ret
            exact ⟨rfl, HF.out w5 w6 hk5 hg6⟩
          · have hd1 : decide ((i : Int) < n) = false := by simp; omega
            have hd3 : decide (i < n) = false := by simp; omega
            clear HG HL hd hlt hstop
            go_wp2_with (first | (go_at_call 24; go_must (refine h24.mono ?_); rintro y w5 ⟨rfl, hk5⟩; have h13b := h13 w5; clear h24 c4) | (go_at_call 13; go_must (refine h13b.mono ?_); rintro y w6 ⟨rfl, hg6⟩) | fail)
            go_ret
            exact ⟨rfl, HF.out w5 w6 hk5 hg6⟩

end Go.Proofs.Ytagcmfaljfaikaa
