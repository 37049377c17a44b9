import Derived.Test.YtndjimdegkdljaaYt
import Derived.Test.YtndjimdegkdljaaZn
import Derived.Deep.CutBlock
/-
  WarmDisk: the law's walk.
-/
namespace Go.Proofs.Ytndjimdegkdljaa
open Go.RowKit Go.MapKept
set_option linter.unusedVariables false
set_option linter.unusedSimpArgs false
attribute [local go_sem] Oper.semAt_some

set_option maxRecDepth 100000 in
set_option maxHeartbeats 8000000 in
theorem disk_3 {w : World} (s0 s1 : Int) {a : Option Addr} {n cp : Nat} (hA : ActsIn w a n) (hn : n ≤ maxLen) :
    Calls Try.prog 3 #[.agg #[.int .i64 s0, .int .i64 s1], .slice a n cp] w fun e w' => e = .returned (.bool true) ∧ w.grownBy w' none := by
  have g0 := gb_alloc (gb_refl w none) (.cells #[.int .i64 s0, .int .i64 s1] 22)
  have B0 := Box.new w 22 #[.int .i64 s0, .int .i64 s1]
  have h5 := stirs_5 (w.alloc (.cells #[.int .i64 s0, .int .i64 s1] 22))
  have HA := Lib.hid hA
  clear hA
  go_enter Try.func3, Try.ntmps3
  go_upto_region 5 with (go_at_call 5; go_must (refine h5.mono ?_); rintro e w1 ⟨rfl, g1⟩; (have HG1 := Lib.hid g1); clear h5 g1)
  have B1 := B0.kept HG1.out (by simp)
  have G1 := gb_trans g0 HG1.out
  have g2 := gb_alloc (gb_refl w1 none) (.cells #[.pointer none, .pointer none] 26)
  have B2 := Box.new w1 26 #[.pointer none, .pointer none]
  have g3 := gb_alloc g2 (.cells #[.pointer none, .pointer none] 28)
  have B3 := Box.new (w1.alloc (.cells #[.pointer none, .pointer none] 26)) 28 #[.pointer none, .pointer none]
  rw [show (w1.alloc (.cells #[.pointer none, .pointer none] 26)).heap.size = w1.heap.size + 1 by simp] at B3
  obtain ⟨V, hV⟩ : ∃ V, (w1.alloc (.cells #[.pointer none, .pointer none] 26)).alloc (.cells #[.pointer none, .pointer none] 28) = V := ⟨_, rfl⟩
  have C1 := B1.kept g3 (by simp)
  have C2 := B2.kept (gb_alloc (gb_refl _ none) (.cells #[.pointer none, .pointer none] 28)) (by simp)
  have hVs : V.heap.size = w1.heap.size + 2 := by rw [← hV]; simp
  rw [hV] at C1 C2 B3 g3
  rw [hV]
  have GV := gb_trans G1 g3
  have hzs := G1.size
  obtain ⟨z, hz⟩ : ∃ z, w1.heap.size + 2 = z := ⟨_, rfl⟩
  obtain ⟨sb, hsb⟩ : ∃ sb, w.heap.size = sb := ⟨_, rfl⟩
  obtain ⟨bd, hbd⟩ : ∃ bd, w1.heap.size = bd := ⟨_, rfl⟩
  rw [hsb] at C1 hzs ⊢
  rw [hbd] at C2 B3 hz hVs hzs ⊢
  have hsl : sb < bd := by have := C1.lt; have h2 := HG1.out.size; simp at h2; omega
  have HV := Lib.hid (And.intro C1 (And.intro C2 (And.intro B3 GV)))
  have HS := Lib.hid hsb
  clear g0 B0 B1 G1 g2 B2 g3 B3 C1 C2 GV hV HG1 hsb hbd
  go_upto_block 0 with fail
  go_cut [7] from 8 to 51 (fun x7 wd => ∃ a0 r0 a1 r1 : Value, Box wd 26 bd #[a0, a1] ∧ Box wd 28 (bd + 1) #[r0, r1] ∧ S2 wd z 0 a0 r0 a1 r1 ∧ V.heap.size ≤ wd.heap.size ∧ w.grownBy wd none)
  case first =>
    go_wp2_with fail
    go_loopw [7] (fun x7 wr => ∃ (k : Nat) (a0 r0 a1 r1 : Value), k ≤ 2 ∧ x7 = .int .i64 (k : Int) ∧ Box wr 22 sb #[.int .i64 s0, .int .i64 s1] ∧ Box wr 26 bd #[a0, a1] ∧ Box wr 28 (bd + 1) #[r0, r1] ∧ S2 wr z 0 a0 r0 a1 r1 ∧ V.heap.size ≤ wr.heap.size ∧ w.grownBy wr none ∧ (k = 0 → a0 = .pointer none ∧ r0 = .pointer none) ∧ (k ≤ 1 → a1 = .pointer none ∧ r1 = .pointer none)) (fun x7 _ => 2 - (intOf x7).toNat)
    case atStart => exact ⟨0, _, _, _, _, by omega, rfl, HV.out.1, HV.out.2.1, HV.out.2.2.1, S2.nil _ _ _, Nat.le_refl _, HV.out.2.2.2, fun _ => ⟨rfl, rfl⟩, fun _ => ⟨rfl, rfl⟩⟩
    case round =>
      obtain ⟨k, a0, r0, a1, r1, hk, rfl, b22, b26, b28, hS, hzr, hg, e0, e1⟩ := hrel
      clear HV
      by_cases hk2 : k = 2
      · subst hk2
        have HX := Lib.hid (And.intro b26 (And.intro b28 (And.intro hS (And.intro hzr hg))))
        clear b22 b26 b28 hS hzr hg e0 e1
        go_wp2_with fail
        go_meet
        exact ⟨a0, r0, a1, r1, HX.out⟩
      · obtain ⟨sp, hsp⟩ : ∃ sp, (if k = 0 then s0 else s1) = sp := ⟨_, rfl⟩
        have q0 : wr.cell? ⟨sb, k, none⟩ = some (.int .i64 sp) := by
          rw [b22.cell k, ← hsp]
          rcases (by omega : k = 0 ∨ k = 1) with rfl | rfl <;> rfl
        have d1 : decide ((k : Int) < 2) = true := by simp; omega
        have d2 : (k : Int) < 2 := by omega
        have d3 : (0 : Int) ≤ (k : Int) := by omega
        have hwk : IntKind.i64.wrap ((k : Int) + 1) = (k : Int) + 1 := by rw [IntKind.wrap_i64]; omega
        have HX := Lib.hid (And.intro b22 (And.intro b26 (And.intro b28 (And.intro hS (And.intro hzr (And.intro hg (And.intro e0 e1)))))))
        clear b22 b26 b28 hS hzr hg e0 e1 hsp
        by_cases hv : 0 ≤ sp ∧ sp ≤ 1099511627776
        · have h6 := new_6 sp hv.1 hv.2
          have h7 := rnew_7 sp hv.1 hv.2
          have hT := fun W => told_8 (w := W) (v := .nilIface) (call := []) (name := []) (why := 0) (.inl ⟨rfl, rfl⟩) (by decide) (by decide)
          have hflt : fltO [] [] 0 = .agg #[sv [], sv [], .int .i64 0] := by rfl
          rw [hflt] at hT
          simp only [hflt] at h7
          clear hflt
          go_upto_region 12 with (first
            | (go_at_call 6; go_must (refine (h6 _).mono ?_); rintro e w2 ⟨p2, rfl, hp2, g2, c2⟩; (have k0 := gb_cellN g2 q0); (have H2 := Lib.hid (And.intro hp2 (And.intro g2 c2))); clear hp2 g2 c2)
            | (go_at_call 7; go_must (refine (h7 _).mono ?_); rintro e w3 ⟨q3, rfl, hq3, g3, c3⟩; (have H3 := Lib.hid (And.intro hq3 (And.intro g3 c3))); clear hq3 g3 c3)
            | (go_at_call 8; go_must (refine (hT _).mono ?_); rintro e w4 ⟨rfl, g4⟩; (have G4 := Lib.hid (gb_trans (gb_alloc (gb_refl w3 none) _) g4)); clear g4))
          obtain ⟨b22, b26, b28, hS, hzr, hg, e0, e1⟩ := HX.out
          obtain ⟨hp2, g2, c2⟩ := H2.out
          obtain ⟨hq3, g3, c3⟩ := H3.out
          have gA := gb_trans g2 (gb_trans g3 G4.out)
          have x22 := b22.kept gA (by simp)
          have x26 := b26.kept gA (by simp)
          have x28 := b28.kept gA (by simp)
          have y26 : ∃ u, w4.cell? ⟨bd, k, none⟩ = some u := by
            rw [x26.cell k]
            rcases (by omega : k = 0 ∨ k = 1) with rfl | rfl <;> exact ⟨_, rfl⟩
          have y28 : ∃ u, w4.cell? ⟨bd + 1, k, none⟩ = some u := by
            rw [x28.cell k]
            rcases (by omega : k = 0 ∨ k = 1) with rfl | rfl <;> exact ⟨_, rfl⟩
          obtain ⟨u26, y26⟩ := y26
          obtain ⟨u28, y28⟩ := y28
          have z26 : w4.frozen? ⟨bd, k, none⟩ = false := x26.fz k
          have z28 : w4.frozen? ⟨bd + 1, k, none⟩ = false := x28.fz k
          have hne : ¬ bd = bd + 1 := by omega
          have hne2 : ¬ bd + 1 = bd := by omega
          have HY := Lib.hid (And.intro x22 (And.intro x26 (And.intro x28 gA)))
          clear b22 b26 b28 hS hzr hg e0 e1 hp2 g2 c2 hq3 g3 c3 gA x22 x26 x28 q0 k0 h6 h7 hT
          go_wp2_with fail
          obtain ⟨b22, b26, b28, hS, hzr, hg, e0, e1⟩ := HX.out
          obtain ⟨hp2, g2, c2⟩ := H2.out
          obtain ⟨hq3, g3, c3⟩ := H3.out
          obtain ⟨x22, x26, x28, gA⟩ := HY.out
          have hzw : z ≤ wr.heap.size := by omega
          have gS : Kp (fun b => b < z ∧ sb < b) w4 ((w4.setCell ⟨bd, k, none⟩ (pv p2.d)).setCell ⟨bd + 1, k, none⟩ (pv q3.d)) := ((Kp.refl _ w4).step (gb_setCell (gb_refl w4 (some bd)) _) (fun i hi => .inl (by have := Option.some.inj hi; omega))).step (gb_setCell (gb_refl _ (some (bd + 1))) _) (fun i hi => .inl (by have := Option.some.inj hi; omega))
          have t22 := gS.box x22 (by omega)
          have gF : w.grownBy ((w4.setCell ⟨bd, k, none⟩ (pv p2.d)).setCell ⟨bd + 1, k, none⟩ (pv q3.d)) none := gb_of_kp (gb_trans hg gA) gS (fun j hj => by have := HS.out; omega)
          have hsz := (gb_trans hg gA).size
          have hzF : V.heap.size ≤ ((w4.setCell ⟨bd, k, none⟩ (pv p2.d)).setCell ⟨bd + 1, k, none⟩ (pv q3.d)).heap.size := by have := gA.size; have := gS.size; omega
          have t26 := (x26.set k (pv p2.d)).kept (gb_setCell (i := k) (gb_refl (w4.setCell ⟨bd, k, none⟩ (pv p2.d)) (some (bd + 1))) (pv q3.d)) (by simp)
          have t28 := (x28.kept (gb_setCell (i := k) (gb_refl w4 (some bd)) (pv p2.d)) (by simp)).set k (pv q3.d)
          rcases (by omega : k = 0 ∨ k = 1) with rfl | rfl
          · obtain ⟨rfl, rfl⟩ := e0 rfl
            have hS2 := ((S2.made hS hzw hp2 g2 c2 hq3 g3 c3).gb G4.out (Nat.le_refl _)).low gS (fun b hb => hb.1)
            exact ⟨⟨1, _, _, _, _, by omega, by first | rfl | simp, t22, t26, t28, hS2, hzF, gF, (fun h => absurd h (by decide)), fun _ => e1 (by omega)⟩, by simp [intOf]⟩
          · obtain ⟨rfl, rfl⟩ := e1 (by omega)
            have hS2 := ((S2.made hS.symm hzw hp2 g2 c2 hq3 g3 c3).symm.gb G4.out (Nat.le_refl _)).low gS (fun b hb => hb.1)
            exact ⟨⟨2, _, _, _, _, by omega, by first | rfl | simp, t22, t26, t28, hS2, hzF, gF, (fun h => absurd h (by decide)), (fun h => absurd h (by decide))⟩, by simp [intOf]⟩
        · have h6 := new_6x sp hv
          have h7 := rnew_7x sp hv
          have hT := fun (W : World) (v : Value) (he : ErrV W v [110, 101, 119, 100, 105, 115, 107] [] 1) => told_8 he (by decide) (by decide)
          have hflt : fltO [110, 101, 119, 100, 105, 115, 107] [] 1 = .agg #[sv [110, 101, 119, 100, 105, 115, 107], sv [], .int .i64 1] := by rfl
          simp only [hflt] at hT
          clear hflt
          go_upto_region 12 with (first
            | (go_at_call 6; go_must (refine (h6 _).mono ?_); rintro e w2 ⟨v2, rfl, hv2, g2⟩; (have k0 := gb_cellN g2 q0); (have H2 := Lib.hid (And.intro hv2 g2)); clear hv2 g2)
            | (go_at_call 7; go_must (refine (h7 _).mono ?_); rintro e w3 ⟨rfl, g3⟩; (have H3 := Lib.hid g3); clear g3)
            | (go_at_call 8; go_must (refine (hT _ _ (H2.out.1.kept (gb_trans H3.out (gb_alloc (gb_refl w3 none) _)))).mono ?_); rintro e w4 ⟨rfl, g4⟩; (have G4 := Lib.hid (gb_trans (gb_alloc (gb_refl w3 none) _) g4)); clear g4))
          obtain ⟨b22, b26, b28, hS, hzr, hg, e0, e1⟩ := HX.out
          have gA := gb_trans H2.out.2 (gb_trans H3.out G4.out)
          have x22 := b22.kept gA (by simp)
          have x26 := b26.kept gA (by simp)
          have x28 := b28.kept gA (by simp)
          have y26 : ∃ u, w4.cell? ⟨bd, k, none⟩ = some u := by
            rw [x26.cell k]
            rcases (by omega : k = 0 ∨ k = 1) with rfl | rfl <;> exact ⟨_, rfl⟩
          have y28 : ∃ u, w4.cell? ⟨bd + 1, k, none⟩ = some u := by
            rw [x28.cell k]
            rcases (by omega : k = 0 ∨ k = 1) with rfl | rfl <;> exact ⟨_, rfl⟩
          obtain ⟨u26, y26⟩ := y26
          obtain ⟨u28, y28⟩ := y28
          have z26 : w4.frozen? ⟨bd, k, none⟩ = false := x26.fz k
          have z28 : w4.frozen? ⟨bd + 1, k, none⟩ = false := x28.fz k
          have hne : ¬ bd = bd + 1 := by omega
          have hne2 : ¬ bd + 1 = bd := by omega
          have HY := Lib.hid (And.intro x22 (And.intro x26 (And.intro x28 gA)))
          clear b22 b26 b28 hS hzr hg e0 e1 gA x22 x26 x28 q0 k0 h6 h7 hT
          go_wp2_with fail
          obtain ⟨b22, b26, b28, hS, hzr, hg, e0, e1⟩ := HX.out
          obtain ⟨x22, x26, x28, gA⟩ := HY.out
          have gS : Kp (fun b => b < z ∧ sb < b) w4 ((w4.setCell ⟨bd, k, none⟩ (.pointer none)).setCell ⟨bd + 1, k, none⟩ (.pointer none)) := ((Kp.refl _ w4).step (gb_setCell (gb_refl w4 (some bd)) _) (fun i hi => .inl (by have := Option.some.inj hi; omega))).step (gb_setCell (gb_refl _ (some (bd + 1))) _) (fun i hi => .inl (by have := Option.some.inj hi; omega))
          have t22 := gS.box x22 (by omega)
          have gF : w.grownBy ((w4.setCell ⟨bd, k, none⟩ (.pointer none)).setCell ⟨bd + 1, k, none⟩ (.pointer none)) none := gb_of_kp (gb_trans hg gA) gS (fun j hj => by have := HS.out; omega)
          have hzF : V.heap.size ≤ ((w4.setCell ⟨bd, k, none⟩ (.pointer none)).setCell ⟨bd + 1, k, none⟩ (.pointer none)).heap.size := by have := gA.size; have := gS.size; omega
          have t26 := (x26.set k (.pointer none)).kept (gb_setCell (i := k) (gb_refl (w4.setCell ⟨bd, k, none⟩ (.pointer none)) (some (bd + 1))) (.pointer none)) (by simp)
          have t28 := (x28.kept (gb_setCell (i := k) (gb_refl w4 (some bd)) (.pointer none)) (by simp)).set k (.pointer none)
          rcases (by omega : k = 0 ∨ k = 1) with rfl | rfl
          · obtain ⟨rfl, rfl⟩ := e0 rfl
            have hS2 := (hS.gb gA (Nat.le_refl _)).low gS (fun b hb => hb.1)
            exact ⟨⟨1, _, _, _, _, by omega, by first | rfl | simp, t22, t26, t28, hS2, hzF, gF, (fun h => absurd h (by decide)), fun _ => e1 (by omega)⟩, by simp [intOf]⟩
          · obtain ⟨rfl, rfl⟩ := e1 (by omega)
            have hS2 := (hS.gb gA (Nat.le_refl _)).low gS (fun b hb => hb.1)
            exact ⟨⟨2, _, _, _, _, by omega, by first | rfl | simp, t22, t26, t28, hS2, hzF, gF, (fun h => absurd h (by decide)), (fun h => absurd h (by decide))⟩, by simp [intOf]⟩
  case rest =>
    obtain ⟨a0, r0, a1, r1, b26, b28, hS, hzr, hg⟩ := hcut
    obtain ⟨W, hW⟩ : ∃ W, W = wc := ⟨_, rfl⟩
    subst hW
    have hsw : w.heap.size ≤ z := by rw [HS.out]; omega
    have HW := Lib.hid (And.intro b26 (And.intro b28 (And.intro hS (And.intro hzr hg))))
    clear b26 b28 hS hzr hg HV
    go_upto_block 2 with fail
    go_cut [12] from 13 to 85 (fun x12 wd => Box wd 26 bd #[a0, a1] ∧ Box wd 28 (bd + 1) #[r0, r1] ∧ S2 wd z 300 a0 r0 a1 r1 ∧ V.heap.size ≤ wd.heap.size ∧ w.grownBy wd none)
    case first =>
      go_wp2_with fail
      go_loopw [12] (fun x12 wr => ∃ i : Nat, i ≤ n ∧ i ≤ 300 ∧ x12 = .int .i64 (i : Int) ∧ Box wr 26 bd #[a0, a1] ∧ Box wr 28 (bd + 1) #[r0, r1] ∧ S2 wr z i a0 r0 a1 r1 ∧ V.heap.size ≤ wr.heap.size ∧ w.grownBy wr none) (fun x12 _ => n - (intOf x12).toNat)
      case atStart => exact ⟨0, by omega, by omega, rfl, HW.out.1, HW.out.2.1, HW.out.2.2.1, HW.out.2.2.2.1, HW.out.2.2.2.2⟩
      case round =>
        obtain ⟨i, hin, hi3, rfl, b26, b28, hS, hzr, hg⟩ := hrel
        clear HW
        by_cases hlt : i < n ∧ i < 300
        · obtain ⟨hlt, hl3⟩ := hlt
          obtain ⟨b, o, rfl, on, dov, cnk, nm, tn, bs, P, ls, ba, pa, ca, nb, np, nl, bc, pc, cc, q0, q1, q2, q3, q4, q5, q6, q7, hbl, hPl, hll, ⟨eb, ep, ec, eb3, ep3, ec3⟩, hb, hp, hc, hnm, htn⟩ := HA.out i hlt
          have t0 := gb_cellN hg q0
          have t1 := gb_cellN hg q1
          have t2 := gb_cellN hg q2
          have t3 := gb_cellN hg q3
          have t4 := gb_cellN hg q4
          have t5 := gb_cellN hg q5
          have t6 := gb_cellN hg q6
          have t7 := gb_cellN hg q7
          have d1 : decide ((i : Int) < (n : Int)) = true := by simp; omega
          have hib : (i : Int) < (n : Int) := by omega
          have d2 : decide ((i : Int) < 300) = true := by simp; omega
          have hi2 : (i : Int) < 300 := by omega
          have d3 : (0 : Int) ≤ (i : Int) := by omega
          have hw1 : IntKind.i64.wrap ((i : Int) + 1) = (i : Int) + 1 := by rw [IntKind.wrap_i64]; omega
          obtain ⟨k, hk2, hand⟩ := and_one on
          have hzw : z ≤ wr.heap.size := by omega
          have hgsz := hg.size
          have HH := Lib.hid (And.intro hb (And.intro hp (And.intro hc (And.intro hg (And.intro b26 (And.intro b28 hS))))))
          clear HA hb hp hc
          have HQ := Lib.hid (And.intro q0 (And.intro q1 (And.intro q2 (And.intro q3 (And.intro q4 (And.intro q5 (And.intro q6 q7)))))))
          clear q0 q1 q2 q3 q4 q5 q6 q7
          obtain ⟨x, y, hx, hy, hbx, hopen⟩ : ∃ x y, wr.cell? ⟨bd, k, none⟩ = some x ∧ wr.cell? ⟨bd + 1, k, none⟩ = some y ∧ (∀ W : World, Box W 26 bd #[a0, a1] → Box W 28 (bd + 1) #[r0, r1] → W.cell? ⟨bd, k, none⟩ = some x ∧ W.cell? ⟨bd + 1, k, none⟩ = some y) ∧ ((x = .pointer none ∧ y = .pointer none) ∨ ∃ (d r : Nat) (M : Md) (G : Nat → Prop), x = pv d ∧ y = pv r ∧ M.acts ≤ i ∧ Dv wr wr G d r M M ∧ (∀ b, G b → z ≤ b) ∧ ∀ (w' : World) (M' : Md), Dv wr w' G d r M' M' → M'.acts ≤ i + 1 → S2 w' z (i + 1) a0 r0 a1 r1) := by
            rcases (by omega : k = 0 ∨ k = 1) with rfl | rfl
            · exact ⟨a0, r0, b26.cell 0, b28.cell 0, fun W h1 h2 => ⟨h1.cell 0, h2.cell 0⟩, S2.open hS hzw (Nat.le_succ i)⟩
            · refine ⟨a1, r1, b26.cell 1, b28.cell 1, fun W h1 h2 => ⟨h1.cell 1, h2.cell 1⟩, ?_⟩
              rcases S2.open hS.symm hzw (Nat.le_succ i) with h1 | ⟨d, r, M, G, m1, m2, m3, m4, m5, m6⟩
              · exact .inl h1
              · exact .inr ⟨d, r, M, G, m1, m2, m3, m4, m5, fun w' M' D hM => (m6 w' M' D hM).symm⟩
          have hk0 : (0 : Int) ≤ (k : Int) := by omega
          have hk1 : (k : Int) < 2 := by omega
          clear b26 b28 hS hg
          go_upto_region 17 with fail
          rcases hopen with ⟨rfl, rfl⟩ | ⟨d, r, M, G, rfl, rfl, hMa, hD, hGz, hcl⟩
          · go_region
            all_goals
              go_wp2_with fail
              obtain ⟨hb, hp, hc, hg, b26, b28, hS⟩ := HH.out
              exact ⟨⟨i + 1, by omega, by omega, by first | rfl | simp, b26.kept (gb_drew (gb_refl wr none)) (by simp), b28.kept (gb_drew (gb_refl wr none)) (by simp), hS.gb (gb_drew (gb_refl wr none)) (Nat.le_succ i), hzr, gb_drew hg⟩, by simp [intOf]; omega⟩
          · have h9 := fun (W : World) (gW : wr.grownBy W none) => acts_dv (hD.more gW) (by omega) on dov cnk nm tn bs P ls hbl hPl hll eb ep ec eb3 ep3 ec3 (HH.out.1.low (gb_trans HH.out.2.2.2.1 gW) hgsz hsw hGz) (HH.out.2.1.low (gb_trans HH.out.2.2.2.1 gW) hgsz hsw hGz) (HH.out.2.2.1.low (gb_trans HH.out.2.2.2.1 gW) hgsz hsw hGz) hnm htn
            have HC := Lib.hid (And.intro hcl (And.intro hGz hbx))
            clear hD hcl hGz hbx
            go_region_held3 (fun w' => w'.cell? ⟨bd, k, none⟩ = some (pv d) ∧ w'.cell? ⟨bd + 1, k, none⟩ = some (pv r) ∧ w'.cell? ⟨b, o + i * 8, none⟩ = some (.int .i64 on) ∧ w'.cell? ⟨b, o + i * 8 + 1, none⟩ = some (.int .i64 dov) ∧ w'.cell? ⟨b, o + i * 8 + 2, none⟩ = some (sv nm) ∧ w'.cell? ⟨b, o + i * 8 + 3, none⟩ = some (sv tn) ∧ w'.cell? ⟨b, o + i * 8 + 4, none⟩ = some (.slice ba nb bc) ∧ w'.cell? ⟨b, o + i * 8 + 5, none⟩ = some (.slice pa np pc) ∧ w'.cell? ⟨b, o + i * 8 + 6, none⟩ = some (.slice ca nl cc) ∧ w'.cell? ⟨b, o + i * 8 + 7, none⟩ = some (.int .i64 cnk)) ((first | exact K5.out | exact ⟨hx, hy, t0, t1, t2, t3, t4, t5, t6, t7⟩ | go_keep)) ((first | (go_at_call 9; go_must (refine (h9 _ (by first | exact gb_refl _ _ | exact gb_drew (gb_refl _ _) | exact gb_drewN (gb_refl _ _) _)).mono ?_); rintro ye w5 ⟨rfl, M5, hD5, hM5⟩; (have gF5 : w.grownBy w5 none := gb_of_kp HH.out.2.2.2.1 hD5.kpp (fun j hj => Nat.le_trans hsw (HC.out.2.1 j hj))); (have X5 := HC.out.2.2 w5 (hD5.kpp.box HH.out.2.2.2.2.1 (fun h => by have := HC.out.2.1 _ h; omega)) (hD5.kpp.box HH.out.2.2.2.2.2.1 (fun h => by have := HC.out.2.1 _ h; omega))); (have K5 := Lib.hid (And.intro X5.1 (And.intro X5.2 (And.intro (gb_cellN gF5 HQ.out.1) (And.intro (gb_cellN gF5 HQ.out.2.1) (And.intro (gb_cellN gF5 HQ.out.2.2.1) (And.intro (gb_cellN gF5 HQ.out.2.2.2.1) (And.intro (gb_cellN gF5 HQ.out.2.2.2.2.1) (And.intro (gb_cellN gF5 HQ.out.2.2.2.2.2.1) (And.intro (gb_cellN gF5 HQ.out.2.2.2.2.2.2.1) (gb_cellN gF5 HQ.out.2.2.2.2.2.2.2))))))))))); (have H5 := Lib.hid (And.intro hD5 (And.intro hM5 gF5))); clear hD5 hM5 gF5 X5)))
            all_goals
              go_wp2_with fail
              obtain ⟨hb, hp, hc, hg, b26, b28, hS⟩ := HH.out
              have hS5 := HC.out.1 w5 M5 H5.out.1 (by have := H5.out.2.1; split at this <;> omega)
              have hk5 := H5.out.1.kpp
              have gF := H5.out.2.2
              exact ⟨⟨i + 1, by omega, by omega, by first | rfl | simp, hk5.box b26 (fun h => by have := HC.out.2.1 _ h; omega), hk5.box b28 (fun h => by have := HC.out.2.1 _ h; omega), hS5, Nat.le_trans hzr hk5.size, gF⟩, by simp [intOf]; omega⟩
        · have hx : ¬ i < n ∨ ¬ i < 300 := by omega
          have HX := Lib.hid (And.intro b26 (And.intro b28 (And.intro (hS.gb (gb_refl wr none) (show i ≤ 300 from hi3)) (And.intro hzr hg))))
          clear b26 b28 hS hzr hg
          by_cases hin2 : i < n
          · have d1 : decide ((i : Int) < (n : Int)) = true := by simp; omega
            have e1 : (i : Int) < (n : Int) := by omega
            obtain rfl : i = 300 := by omega
            go_wp2_with fail
            go_meet
            exact HX.out
          · obtain rfl : i = n := by omega
            have d1 : decide ((i : Int) < (i : Int)) = false := by simp
            go_wp2_with fail
            go_meet
            exact HX.out
    case rest =>
      obtain ⟨b26, b28, hS, hzr, hg⟩ := hcut
      obtain ⟨W2, hW2⟩ : ∃ W2, W2 = wc := ⟨_, rfl⟩
      subst hW2
      have HW2 := Lib.hid (And.intro b26 (And.intro b28 (And.intro hS (And.intro hzr hg))))
      clear b26 b28 hS hzr hg HW HA
      go_wp2_with fail
      go_loopw [14] (fun x14 wr => ∃ k : Nat, k ≤ 2 ∧ x14 = .int .i64 (k : Int) ∧ Box wr 26 bd #[a0, a1] ∧ Box wr 28 (bd + 1) #[r0, r1] ∧ S2 wr z 300 a0 r0 a1 r1 ∧ V.heap.size ≤ wr.heap.size ∧ w.grownBy wr none) (fun x14 _ => 2 - (intOf x14).toNat)
      case atStart => exact ⟨0, by omega, rfl, HW2.out⟩
      case round =>
        obtain ⟨k, hk, rfl, b26, b28, hS, hzr, hg⟩ := hrel
        clear HW2
        by_cases hk2 : k = 2
        · subst hk2
          have HX := Lib.hid hg
          clear b26 b28 hS hzr hg
          go_wp2_with fail
          go_ret
          exact ⟨rfl, HX.out⟩
        · have d1 : decide ((k : Int) < 2) = true := by simp; omega
          have d2 : (k : Int) < 2 := by omega
          have d3 : (0 : Int) ≤ (k : Int) := by omega
          have hwk : IntKind.i64.wrap ((k : Int) + 1) = (k : Int) + 1 := by rw [IntKind.wrap_i64]; omega
          have hzw : z ≤ wr.heap.size := by omega
          have HH := Lib.hid (And.intro hg (And.intro b26 (And.intro b28 hS)))
          obtain ⟨x, y, hx, hy, hbx, hopen⟩ : ∃ x y, wr.cell? ⟨bd, k, none⟩ = some x ∧ wr.cell? ⟨bd + 1, k, none⟩ = some y ∧ (∀ W : World, Box W 26 bd #[a0, a1] → Box W 28 (bd + 1) #[r0, r1] → W.cell? ⟨bd, k, none⟩ = some x ∧ W.cell? ⟨bd + 1, k, none⟩ = some y) ∧ ((x = .pointer none ∧ y = .pointer none) ∨ ∃ (d r : Nat) (M : Md) (G : Nat → Prop), x = pv d ∧ y = pv r ∧ M.acts ≤ 300 ∧ Dv wr wr G d r M M ∧ (∀ b, G b → z ≤ b) ∧ ∀ (w' : World) (M' : Md), Dv wr w' G d r M' M' → M'.acts ≤ 300 → S2 w' z 300 a0 r0 a1 r1) := by
            rcases (by omega : k = 0 ∨ k = 1) with rfl | rfl
            · exact ⟨a0, r0, b26.cell 0, b28.cell 0, fun W h1 h2 => ⟨h1.cell 0, h2.cell 0⟩, S2.open hS hzw (Nat.le_refl _)⟩
            · refine ⟨a1, r1, b26.cell 1, b28.cell 1, fun W h1 h2 => ⟨h1.cell 1, h2.cell 1⟩, ?_⟩
              rcases S2.open hS.symm hzw (Nat.le_refl _) with h1 | ⟨d, r, M, G, m1, m2, m3, m4, m5, m6⟩
              · exact .inl h1
              · exact .inr ⟨d, r, M, G, m1, m2, m3, m4, m5, fun w' M' D hM => (m6 w' M' D hM).symm⟩
          clear b26 b28 hS hg
          rcases hopen with ⟨rfl, rfl⟩ | ⟨d, r, M, G, rfl, rfl, hMa, hD, hGz, hcl⟩
          · go_wp2_with fail
            obtain ⟨hg, b26, b28, hS⟩ := HH.out
            exact ⟨⟨k + 1, by omega, by first | rfl | simp, b26, b28, hS, hzr, hg⟩, by simp [intOf]; omega⟩
          · have HC := Lib.hid (And.intro hcl hGz)
            have CX : ∀ {W : World} {N1 N2 : Md}, Dv wr W G d r N1 N2 → W.cell? ⟨bd, k, none⟩ = some (pv d) ∧ W.cell? ⟨bd + 1, k, none⟩ = some (pv r) := fun D => hbx _ (D.kpp.box HH.out.2.1 (fun h => by have := hGz _ h; omega)) (D.kpp.box HH.out.2.2.1 (fun h => by have := hGz _ h; omega))
            have HCX := Lib.hid (fun (W : World) (N1 N2 : Md) (D : Dv wr W G d r N1 N2) => CX D)
            have HD := Lib.hid hD
            clear hcl hGz CX hbx hD
            have GG : ∀ (W : World), wr.grownBy W none → Calls Try.prog 10 #[pv d, pv r] W fun e w' => e = .returned (.bool true) ∧ ∃ M', Dv wr w' G d r M' M' ∧ M'.acts ≤ M.acts := fun W gW => alike_dv (HD.out.more gW) (by omega)
            go_upto_region 23 with fail
            go_cut [101] from 94 to 100 (fun x101 wd => x101 = .bool false ∧ ∃ M1 : Md, Dv wr wd G d r M1 M1 ∧ M1.acts ≤ M.acts)
            case first =>
              go_region_with (go_at_call 10; go_must (refine (GG _ (by first | exact gb_refl _ _ | exact gb_drew (gb_refl _ _) | exact gb_drewN (gb_refl _ _) _)).mono ?_); rintro ye w5 ⟨rfl, M5, hD5, hM5⟩; (have H5 := Lib.hid (And.intro hD5 hM5)); clear hD5 hM5)
              all_goals
                go_wp2_with fail
                go_meet
                exact ⟨rfl, M5, H5.out⟩
            case rest =>
              obtain ⟨rfl, M1, D1, hM1⟩ := hcut
              obtain ⟨X, hX⟩ : ∃ X, X = wc := ⟨_, rfl⟩
              subst hX
              obtain ⟨x1, x2⟩ := HCX.out _ _ _ D1
              have h11 := dv_11 D1 (by omega)
              clear GG hx hy D1
              go_upto_region 27 with (first
                | (go_at_call 11; go_must (refine h11.mono ?_); rintro ye w6 ⟨rfl, S6, D6, hS6⟩; obtain ⟨c6a, c6b⟩ := HCX.out _ _ _ D6; (have h12 := dv_12g D6 (by omega)); (have H6 := Lib.hid hS6); clear D6 hS6 h11)
                | (go_at_call 12; go_must (refine h12.mono ?_); rintro ye w7 ⟨rfl, D7, K7⟩; obtain ⟨M7, D7b, hM7⟩ := Dv.both D7 H6.out; obtain ⟨c7a, c7b⟩ := HCX.out _ _ _ D7b; (have H7 := Lib.hid D7b); clear D7 D7b K7 h12))
              have h10 := fun (W : World) (gW : w7.grownBy W none) => alike_dv (H7.out.more gW) (by omega)
              go_region_with (go_at_call 10; go_must (refine (h10 _ (by first | exact gb_refl _ _ | exact gb_drew (gb_refl _ _) | exact gb_drewN (gb_refl _ _) _)).mono ?_); rintro ye w8 ⟨rfl, M8, hD8, hM8⟩; (have H8 := Lib.hid (And.intro hD8 hM8)); clear hD8 hM8)
              all_goals
                go_wp2_with fail
                obtain ⟨hg, b26, b28, hS⟩ := HH.out
                have hS8 := HC.out.1 w8 M8 H8.out.1 (by have := H8.out.2; omega)
                have hk8 := H8.out.1.kpp
                have gF : w.grownBy w8 none := gb_of_kp hg hk8 (fun j hj => Nat.le_trans hsw (HC.out.2 j hj))
                exact ⟨⟨k + 1, by omega, by first | rfl | simp, hk8.box b26 (fun h => by have := HC.out.2 _ h; omega), hk8.box b28 (fun h => by have := HC.out.2 _ h; omega), hS8, Nat.le_trans hzr hk8.size, gF⟩, by simp [intOf]; omega⟩
end Go.Proofs.Ytndjimdegkdljaa
