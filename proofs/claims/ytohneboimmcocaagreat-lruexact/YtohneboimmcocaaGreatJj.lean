import Derived.Test.YtohneboimmcocaaGreatJi
import Derived.Test.YtohneboimmcocaaGreatOk
import Derived.Test.YtohneboimmcocaaGreatWp
/-
  LruExact's walk.
-/
namespace Go.Proofs.YtohneboimmcocaaGreat
open Go.RowKit
set_option linter.unusedVariables false

theorem GS.more {w : World} {P : Nat → Prop} {wb N M hot warm : Nat} {E : Wd} (h : GS w P wb N hot warm E) (h1 : N ≤ M) (h2 : M ≤ 300) : GS w P wb M hot warm E := by
  obtain ⟨D, lsb, vs, Y, S, cl, hs, hW⟩ := h
  exact ⟨D, lsb, vs, Y, S, cl, hs, hW.more h1 h2⟩
set_option maxRecDepth 100000 in
set_option maxHeartbeats 4000000 in
theorem lruExact_any (x0 x1 dq : Int) (hdq : isI dq) {w : World} {a : Option Addr} {n c : Nat} (hO : OpsIn w a n) (hn : n ≤ maxLen) :
    Calls Tryz.prog 3 #[.agg #[.int .i64 x0, .int .i64 x1], .slice a n c, .int .i64 dq] w fun y w' => y = .returned (.bool true) ∧ w.grownBy w' none := by
  obtain ⟨hot, hh⟩ : ∃ hot : Nat, (hot : Int) = 1 + x0 % 89 := ⟨(1 + x0 % 89).toNat, by omega⟩
  have hx1 : 0 ≤ x1 % (90 - (1 + x0 % 89)) ∧ x1 % (90 - (1 + x0 % 89)) < 90 - (1 + x0 % 89) := ⟨Int.emod_nonneg _ (by omega), Int.emod_lt_of_pos _ (by omega)⟩
  obtain ⟨warm, hw⟩ : ∃ warm : Nat, (warm : Int) = 1 + x1 % (90 - (1 + x0 % 89)) := ⟨(1 + x1 % (90 - (1 + x0 % 89))).toNat, by omega⟩
  have hsh : hot ≤ 100 ∧ warm ≤ 100 := by omega
  have hal := World.grownBy_alloc w (.cells #[.int .i64 x0, .int .i64 x1] 23) none
  have hb0 := Box.new w 23 #[.int .i64 x0, .int .i64 x1]
  have hbg := (begun_gs x0 x1 hh hw (w.alloc (.cells #[.int .i64 x0, .int .i64 x1] 23))).mono (R' := fun y w1 => ∃ wb E, y = .returned (.pointer (some ⟨wb, 0, none⟩)) ∧ Hid (w.grownBy w1 none ∧ GS w1 (fun k => w.heap.size ≤ k) wb 0 hot warm E)) (by
    rintro y w1 ⟨wb, E, rfl, hf, hG⟩
    exact ⟨wb, E, rfl, gb_trans hal hf, hG.less (fun k _ hk => Nat.le_trans hal.size hk)⟩)
  have u0 := hb0.cell 0
  have u1 := hb0.cell 1
  simp at u0 u1
  have hml : (n : Int) ≤ 9223372036854775807 := by unfold maxLen at hn; omega
  clear hh hw hb0 hn hx1
  go_enter Tryz.func3, Tryz.ntmps3
  go_wp2_with (first | (go_at_call 10; go_must (refine hbg.mono ?_); rintro y w1 ⟨wb, E, rfl, hE⟩) | fail)
  clear hbg u0 u1
  go_loopw [8] (fun iv wr => ∃ j : Nat, j ≤ 250 ∧ iv = .int .i64 j ∧ Hid (w.grownBy wr none ∧ GS wr (fun k => w.heap.size ≤ k) wb j hot warm E)) (fun iv _ => 250 - (intOf iv).toNat)
  case atStart => exact ⟨0, by omega, rfl, hE⟩
  case round =>
    obtain ⟨j, hj, rfl, hEj⟩ := hrel
    by_cases hlt : j < n ∧ j < 250
    · obtain ⟨b, o, ha, v, hv, g0, g1, g2, g3, g4, g5⟩ := (hO.kept0 hEj.out.1) j hlt.1
      subst ha
      have hd1 : decide ((j : Int) < n) = true := decide_eq_true (by omega)
      have hd2 : decide ((j : Int) < 250) = true := decide_eq_true (by omega)
      have hl1 : (j : Int) < n := by omega
      have hl2 : (j : Int) < 250 := by omega
      have hb3 := Box.new wr 29 v.cs
      have halo := World.grownBy_alloc wr (.cells v.cs 29) none
      obtain ⟨hgr, hgs⟩ := hEj.out
      have hgr3 := gb_trans hgr halo
      have hgs3 := hgs.kept0 halo
      have hstill := fun w2 (hf : (wr.alloc (.cells v.cs 29)).grownBy w2 none) => (show Hid (w.grownBy w2 none ∧ GS w2 (fun k => w.heap.size ≤ k) wb (j + 1) hot warm E) from ⟨gb_trans hgr3 hf, (hgs3.kept0 hf).more (by omega) (by omega)⟩)
      have h15 := (moves_15 hgs3 (fun k hk => Nat.le_trans hgr3.size hk) (by omega) hsh.1 hsh.2 v hv).mono (R' := fun y w2 => y = .returned (.bool true) ∧ Hid (w.grownBy w2 none ∧ GS w2 (fun k => w.heap.size ≤ k) wb (j + 1) hot warm E)) (by
        rintro y w2 ⟨rfl, hK, hG⟩
        exact ⟨rfl, kp_grown hgr3 hK, hG⟩)
      have h11 := fun bt => (pick_11 hgs3 v hv bt).mono (R' := fun y w2 => y = .returned (.bool true) ∧ Hid (w.grownBy w2 none ∧ GS w2 (fun k => w.heap.size ≤ k) wb (j + 1) hot warm E)) (by
        rintro y w2 ⟨rfl, hf⟩
        exact ⟨rfl, hstill _ hf⟩)
      have h12 := (length_12 hgs3 v.c).mono (R' := fun y w2 => y = .returned (.bool true) ∧ Hid (w.grownBy w2 none ∧ GS w2 (fun k => w.heap.size ≤ k) wb (j + 1) hot warm E)) (by
        rintro y w2 ⟨rfl, hf⟩
        exact ⟨rfl, hstill _ hf⟩)
      obtain ⟨H, h64, h14⟩ := handle_14 hgs3 v hv
      have h14' := h14.mono (R' := fun y w2 => y = .returned (.int .u64 H) ∧ Calls Tryz.prog 13 #[.pointer (some ⟨wb, 0, none⟩), .int .u64 H] w2 fun y w3 => y = .returned (.bool true) ∧ Hid (w.grownBy w3 none ∧ GS w3 (fun k => w.heap.size ≤ k) wb (j + 1) hot warm E)) (by
        rintro y w2 ⟨rfl, hf⟩
        refine ⟨rfl, (header_13 (hgs3.kept0 hf) H).mono ?_⟩
        rintro y w3 ⟨rfl, hf3⟩
        exact ⟨rfl, hstill _ (gb_trans hf hf3)⟩)
      unfold Opv.cs at h15 h11 h12 h14' hb3 halo
      clear hEj hE hgr hgs hgr3 hgs3 hstill h14
      obtain ⟨d0, a0, b0, c0v, h0v, r0⟩ := v
      dsimp only at *
      have k0 := hb3.cell 0
      have k1 := hb3.cell 1
      have k2 := hb3.cell 2
      have k3 := hb3.cell 3
      have k4 := hb3.cell 4
      have k5 := hb3.cell 5
      simp at k0 k1 k2 k3 k4 k5
      clear hO hb3
      by_cases h8 : d0 = 8
      · subst h8
        clear h15 h12 h14'
        go_wp2_with (first | (go_at_call 11; go_must (refine (h11 _).mono ?_); rintro y w2 ⟨rfl, hE2⟩) | fail)
        exact ⟨⟨j + 1, by omega, by go_num, hE2⟩, by simp [intOf]; omega⟩
      · by_cases h9 : d0 = 9
        · subst h9
          clear h15 h11 h14'
          go_wp2_with (first | (go_at_call 12; go_must (refine h12.mono ?_); rintro y w2 ⟨rfl, hE2⟩) | fail)
          exact ⟨⟨j + 1, by omega, by go_num, hE2⟩, by simp [intOf]; omega⟩
        · by_cases hb : d0 = 11
          · subst hb
            clear h15 h11 h12
            go_wp2_with (first | (go_at_call 14; go_must (refine h14'.mono ?_); rintro y w2 ⟨rfl, h13⟩) | (go_at_call 13; go_must (refine h13.mono ?_); rintro y w3 ⟨rfl, hE2⟩) | fail)
            exact ⟨⟨j + 1, by omega, by go_num, hE2⟩, by simp [intOf]; omega⟩
          · clear h11 h12 h14'
            go_wp2_with (first | (go_at_call 15; go_must (refine h15.mono ?_); rintro y w2 ⟨rfl, hE2⟩) | fail)
            exact ⟨⟨j + 1, by omega, by go_num, hE2⟩, by simp [intOf]; omega⟩
    · have hen := ends_16 hEj.out.2
      have hg : Hid _ := hEj.out.1
      clear hO hEj hE
      by_cases h1 : j < n
      · have hj2 : j = 250 := by omega
        subst hj2
        have hd1 : decide (((250 : Nat) : Int) < n) = true := decide_eq_true (by omega)
        have hl1 : (250 : Int) < n := by omega
        go_wp2_with (first | (go_at_call 16; go_must (refine hen.mono ?_); rintro y w3 ⟨rfl, hf3⟩) | (go_at_call 17; go_must (refine (wakes_17 _).mono ?_); rintro y w4 ⟨rfl, hf4⟩) | fail)
        go_ret
        exact ⟨rfl, gb_trans hg.out (gb_trans hf3 hf4)⟩
      · have hd1 : decide ((j : Int) < n) = false := decide_eq_false (by omega)
        have hl1 : ¬ (j : Int) < n := by omega
        go_wp2_with (first | (go_at_call 16; go_must (refine hen.mono ?_); rintro y w3 ⟨rfl, hf3⟩) | (go_at_call 17; go_must (refine (wakes_17 _).mono ?_); rintro y w4 ⟨rfl, hf4⟩) | fail)
        go_ret
        exact ⟨rfl, gb_trans hg.out (gb_trans hf3 hf4)⟩
end Go.Proofs.YtohneboimmcocaaGreat
