import Derived.Test.YtoaaaeefcipdcaaXi
import Derived.Test.YtoaaaeefcipdcaaTd
import Derived.Test.YtoaaaeefcipdcaaSx
/-
  ClassApart's walk.
-/
namespace Go.Proofs.Ytoaaaeefcipdcaa
open Go.RowKit
set_option linter.unusedVariables false

set_option maxRecDepth 100000 in
set_option maxHeartbeats 8000000 in
theorem apart_ss {x0 x1 x2 x3 x4 x5 x6 y0 y1 y2 y3 y4 y5 y6 : Int} {b c d e f g b' c' d' e' f' g' : Int} {A U : Ab} {zs zu : List Int} (hIA : Inv A) (hIU : Inv U) (a : Option Addr) (n cap : Nat) (hn : n ≤ 9223372036854775807) (w : World) (hin : OpsIn w a n) (hgc : ∀ W, Calls Try.prog 17 #[.agg #[.int .i64 x0, .int .i64 x1, .int .i64 x2, .int .i64 x3, .int .i64 x4, .int .i64 x5, .int .i64 x6]] W fun x w' => ∃ sb G B, x = .returned (.tuple #[.pointer (some ⟨sb, 0, none⟩), .bool false]) ∧ W.grownBy w' none ∧ IsS w' sb G B b c d e f g A zs ∧ ∀ k, G k → W.heap.size ≤ k) (hgd : ∀ W, Calls Try.prog 17 #[.agg #[.int .i64 y0, .int .i64 y1, .int .i64 y2, .int .i64 y3, .int .i64 y4, .int .i64 y5, .int .i64 y6]] W fun x w' => ∃ sb G B, x = .returned (.tuple #[.pointer (some ⟨sb, 0, none⟩), .bool false]) ∧ W.grownBy w' none ∧ IsS w' sb G B b' c' d' e' f' g' U zu ∧ ∀ k, G k → W.heap.size ≤ k) :
    Calls Try.prog 6 #[.agg #[.int .i64 x0, .int .i64 x1, .int .i64 x2, .int .i64 x3, .int .i64 x4, .int .i64 x5, .int .i64 x6], .agg #[.int .i64 y0, .int .i64 y1, .int .i64 y2, .int .i64 y3, .int .i64 y4, .int .i64 y5, .int .i64 y6], .slice a n cap] w fun e w' => e = .returned (.bool true) ∧ w.grownBy w' none := by
  have hwk := fun W => wakes_10 W
  obtain ⟨V, hV⟩ : ∃ V, V = (w.alloc (.cells #[.int .i64 x0, .int .i64 x1, .int .i64 x2, .int .i64 x3, .int .i64 x4, .int .i64 x5, .int .i64 x6] 23)).alloc (.cells #[.int .i64 y0, .int .i64 y1, .int .i64 y2, .int .i64 y3, .int .i64 y4, .int .i64 y5, .int .i64 y6] 23) := ⟨_, rfl⟩
  have hF0 : w.grownBy V none := by rw [hV]; exact gb_alloc (World.grownBy_alloc _ _ _) _
  have hc7 : C7 V w.heap.size x0 x1 x2 x3 x4 x5 x6 := by rw [hV]; exact (C7.box w x0 x1 x2 x3 x4 x5 x6).kept (World.grownBy_alloc _ _ _)
  have hd7 : C7 V (w.heap.size + 1) y0 y1 y2 y3 y4 y5 y6 := by
    have h := C7.box (w.alloc (.cells #[.int .i64 x0, .int .i64 x1, .int .i64 x2, .int .i64 x3, .int .i64 x4, .int .i64 x5, .int .i64 x6] 23)) y0 y1 y2 y3 y4 y5 y6
    rw [show (w.alloc (.cells #[.int .i64 x0, .int .i64 x1, .int .i64 x2, .int .i64 x3, .int .i64 x4, .int .i64 x5, .int .i64 x6] 23)).heap.size = w.heap.size + 1 by simp] at h
    rw [hV]; exact h
  have hin0 := hin.kept0 hF0
  clear hin
  go_enter Try.func6, Try.ntmps6
  go_wp2_with fail
  refine (hgc _).mono ?_
  rw [← hV]
  rintro y w1 ⟨sb, Gs, Bs, rfl, hf1, hS1, hG1⟩
  clear hV
  have hc1 := hc7.kept hf1
  obtain ⟨k0, k1, k2, k3, k4, k5, k6⟩ := hc1
  go_wp2_with fail
  refine (hgc _).mono ?_
  rintro y w2 ⟨tb, Gt, Bt, rfl, hf2, hS2, hG2⟩
  have hd2 := (hd7.kept hf1).kept hf2
  clear k0 k1 k2 k3 k4 k5 k6
  obtain ⟨k0, k1, k2, k3, k4, k5, k6⟩ := hd2
  go_wp2_with fail
  refine (hgd _).mono ?_
  rintro y w3 ⟨ub, Gu, Bu, rfl, hf3, hS3, hG3⟩
  clear k0 k1 k2 k3 k4 k5 k6 hc7 hd7 hgc hgd
  have hs1 := hf1.size
  have hs2 := hf2.size
  have hs3 := hf3.size
  have hT0 : Three V w3 sb tb ub b c d e f g b' c' d' e' f' g' A U [] [] (.slice none 0 0) (.slice none 0 0) (.slice none 0 0) Gs Gt Gu :=
    ⟨⟨⟨Gs, Bs, zs, (hS1.kept0 hf2).kept0 hf3, by simp [Value.ownBlock], by simp [Value.ownBlock]⟩, World.ownsRow_nil _ _ _ _, hG1, hIA, by simp⟩,
      ⟨⟨Gt, Bt, zs, hS2.kept0 hf3, by simp [Value.ownBlock], by simp [Value.ownBlock]⟩, World.ownsRow_nil _ _ _ _, fun k hk => by have := hG2 k hk; omega, hIA, by simp⟩,
      ⟨⟨Gu, Bu, zu, hS3, by simp [Value.ownBlock], by simp [Value.ownBlock]⟩, World.ownsRow_nil _ _ _ _, fun k hk => by have := hG3 k hk; omega, hIU, by simp⟩,
      fun k h1 h2 => by have := hS1.lt k h1; have := hG2 k h2; omega, fun k h1 h2 => by have := hS1.lt k h1; have := hG3 k h2; omega, fun k h1 h2 => by have := hS2.lt k h1; have := hG3 k h2; omega, gb_trans (gb_trans hf1 hf2) hf3⟩
  clear hS1 hS2 hS3 hG1 hG2 hG3 hf1 hf2 hf3 hs1 hs2 hs3 hIA hIU
  go_wp2
  go_loopw [13, 14, 15, 16, 17, 18] (fun av bv xv _ _ iv wr => ∃ (i : Nat) (A U : Ab) (hs xs : List Nat) (P Q R : Nat → Prop), i ≤ 300 ∧ iv = .int .i64 i ∧ hs.length ≤ i ∧ xs.length ≤ 2 * i ∧ Three V wr sb tb ub b c d e f g b' c' d' e' f' g' A U hs xs av bv xv P Q R) (fun _ _ _ _ _ iv _ => 300 - (intOf iv).toNat)
  case atStart => exact ⟨0, A, U, [], [], Gs, Gt, Gu, by omega, rfl, by simp, by simp, hT0⟩
  case round =>
    clear hT0
    obtain ⟨i, A, U, hs, xs, P, Q, R, hi, rfl, hlh, hlx, hT⟩ := hrel
    by_cases hlt : i < n
    · by_cases h3 : i < 300
      · obtain ⟨ob, oo, rfl, dn, an, bn, H, raw, vv, ⟨c0, c1, c2, c3, c4, c5⟩, hH⟩ := hin0 i hlt
        obtain ⟨ob2, oo2, he, dn2, an2, bn2, H2, raw2, vv2, ⟨q0, q1, q2, q3, q4, q5⟩, hH2⟩ := hin0 (n - 1 - i) (by omega)
        obtain ⟨rfl, rfl⟩ : ob = ob2 ∧ oo = oo2 := by simpa using he
        obtain ⟨A', hs', o, hIA', hlh', hb', ho', hO⟩ := one_all hT.s.inv (hs := hs) (by omega) hT.s.hb hH dn an bn raw
        obtain ⟨U1, xs1, o1, hIU1, hlx1, hbx1, ho1, hO1⟩ := one_all hT.u.inv (hs := xs) (by omega) hT.u.hb hH2 dn2 an2 bn2 raw2
        obtain ⟨U2, xs2, o2, hIU2, hlx2, hbx2, ho2, hO2⟩ := one_all hIU1 (hs := xs1) (by omega) hbx1 hH dn an bn raw
        have h1 := hT.one_s hIA' hb' hO vv
        have h2 := fun (w' : World) (av' : Value) (P' : Nat → Prop) (ov : Value) (hh : Half V w' sb tb ub b c d e f g b' c' d' e' f' g' A A' U hs hs' xs av' u14 u15 P' Q R o ov) => hh.one_u hIU1 hbx1 hO1 vv2
        unfold opC at h1 h2
        have hdi : decide ((i : Int) < n) = true := by simp; omega
        have hd3 : decide ((i : Int) < 300) = true := by simp; omega
        have hii : (0 : Int) ≤ (i : Int) := by omega
        have hin2 : (i : Int) < (n : Int) := by omega
        have d0 := gb_cellN hT.gr c0
        have d1 := gb_cellN hT.gr c1
        have d2 := gb_cellN hT.gr c2
        have d3 := gb_cellN hT.gr c3
        have d4 := gb_cellN hT.gr c4
        have d5 := gb_cellN hT.gr c5
        go_wp2_with fail
        refine h1.mono ?_
        rintro y w4 ⟨ov, av', P', rfl, hh4⟩
        clear d0 d1 d2 d3 d4 d5
        have d0 := gb_cellN hh4.gr q0
        have d1 := gb_cellN hh4.gr q1
        have d2 := gb_cellN hh4.gr q2
        have d3 := gb_cellN hh4.gr q3
        have d4 := gb_cellN hh4.gr q4
        have d5 := gb_cellN hh4.gr q5
        go_wp2_with fail
        refine (h2 _ _ _ _ hh4).mono ?_
        rintro y w5 ⟨ov2, xv', R', rfl, hh5⟩
        clear d0 d1 d2 d3 d4 d5 h1 h2 q0 q1 q2 q3 q4 q5 hh4
        have h3' := hh5.one_t hIA' hb' hO vv
        unfold opC at h3'
        have d0 := gb_cellN hh5.gr c0
        have d1 := gb_cellN hh5.gr c1
        have d2 := gb_cellN hh5.gr c2
        have d3 := gb_cellN hh5.gr c3
        have d4 := gb_cellN hh5.gr c4
        have d5 := gb_cellN hh5.gr c5
        go_wp2_with fail
        refine h3'.mono ?_
        rintro y w6 ⟨ov3, bv', Q', B1, B2, rfl, hr1, hr2, hT6⟩
        clear d0 d1 d2 d3 d4 d5 h3' hh5
        go_wp2_with fail
        refine (alike_29 hr1 hr2 ho').mono ?_
        rintro y w7 ⟨rfl, hf7⟩
        have hT7 := hT6.kept0 hf7
        clear hT6 hr1 hr2 hf7
        have h4' := hT7.one_u hIU2 hbx2 hO2 vv
        unfold opC at h4'
        have d0 := gb_cellN hT7.gr c0
        have d1 := gb_cellN hT7.gr c1
        have d2 := gb_cellN hT7.gr c2
        have d3 := gb_cellN hT7.gr c3
        have d4 := gb_cellN hT7.gr c4
        have d5 := gb_cellN hT7.gr c5
        go_wp2_with fail
        refine h4'.mono ?_
        rintro y w8 ⟨ov4, xv2, R2, rfl, hT8⟩
        have HE : Hid (Three V w8 sb tb ub b c d e f g b' c' d' e' f' g' A' U2 hs' xs2 av' bv' xv2 P' Q' R2) := hT8
        clear d0 d1 d2 d3 d4 d5 h4' hT7 hT8 c0 c1 c2 c3 c4 c5 hT
        go_wp2
        go_roundw
        case rel => exact ⟨i + 1, A', U2, hs', xs2, P', Q', R2, by omega, by go_num, by omega, by omega, HE.out⟩
        case measure => simp [intOf]; omega
      · obtain rfl : i = 300 := by omega
        have hG : Hid (V.grownBy wr none) := hT.gr
        clear hT hin0
        go_wp2_with (first | (go_at_call 9; go_must (refine (hwk _).mono ?_); rintro y w9 ⟨rfl, hf9⟩) | fail)
        go_ret
        exact ⟨rfl, gb_trans (gb_trans hF0 hG.out) hf9⟩
    · have hG : Hid (V.grownBy wr none) := hT.gr
      have hdi : decide ((i : Int) < n) = false := by simp; omega
      clear hT hin0
      go_wp2_with (first | (go_at_call 9; go_must (refine (hwk _).mono ?_); rintro y w9 ⟨rfl, hf9⟩) | fail)
      go_ret
      exact ⟨rfl, gb_trans (gb_trans hF0 hG.out) hf9⟩

end Go.Proofs.Ytoaaaeefcipdcaa
