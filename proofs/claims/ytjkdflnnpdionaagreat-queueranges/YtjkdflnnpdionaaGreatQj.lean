import Derived.Test.YtjkdflnnpdionaaGreatQh
import Derived.Deep.RegionHeld3
/-
  visit.
-/
namespace Go.Proofs.YtjkdflnnpdionaaGreat
open Go.RowKit
set_option linter.unusedVariables false

/-- What a visit has turned. -/
def Vis (w w' : World) (P : Nat → Prop) (wb N : Nat) (D : Wd) (lsb : Nat) : Prop := Kp P w w' ∧ Kp (FB D lsb) w w' ∧ ∃ D', Mr D D' ∧ GTf w' P wb N D' lsb
section
variable {w : World} {P P' : Nat → Prop} {wb N : Nat} {D : Wd} {lsb : Nat}
theorem Vis.still {w' : World} (hG : GTf w P wb N D lsb) (hf : w.grownBy w' none) : Vis w w' P wb N D lsb := ⟨Kp.of hf, Kp.of hf, D, Mr.refl D, hG.kept0 hf⟩
theorem visit_moves (hG : GTf w P wb N D lsb) (hP : ∀ k, w.heap.size ≤ k → P k) (hN : N < 300) {W : World} (hf : w.grownBy W none) (o : Opv) (hh : o.h < 18446744073709551616) : Calls Tryz.prog 60 #[.pointer (some ⟨wb, 0, none⟩), .agg o.cs] W fun y w' => y = .returned (.bool true) ∧ Vis w w' P wb N D lsb := by
  refine (moves_60F (hG.kept0 hf) (fun k hk => hP k (Nat.le_trans hf.size hk)) hN o hh).mono ?_
  rintro y w' ⟨rfl, hK, hKF, er, hM⟩
  exact ⟨rfl, (Kp.of hf).trans hK (fun _ h => h) (fun k hk => .inl hk), (Kp.of hf).trans hKF (fun _ h => h) (fun k hk => .inl hk), hM.down hG⟩
set_option maxRecDepth 100000 in
set_option maxHeartbeats 4000000 in
theorem visit_21F (hG : GTf w P wb N D lsb) (hP : ∀ k, w.heap.size ≤ k → P k) (hN : N < 300) (dv av bv : Int) (ot lv : Bool) {h : Nat} (h64 : h < 18446744073709551616) :
    Calls Tryz.prog 21 #[.pointer (some ⟨wb, 0, none⟩), .agg #[.int .i64 dv, .int .i64 av, .int .i64 bv, .bool ot, .bool lv], .int .u64 h] w fun y w' => y = .returned (.bool true) ∧ Vis w w' P wb N D lsb := by
  have hal := World.grownBy_alloc w (.cells #[.int .i64 dv, .int .i64 av, .int .i64 bv, .bool ot, .bool lv] 52) none
  have hb0 := Box.new w 52 #[.int .i64 dv, .int .i64 av, .int .i64 bv, .bool ot, .bool lv]
  obtain ⟨ta, tc, hT3, htg, ht4, htb⟩ := hG.told
  have hst := fun W (hf : w.grownBy W none) => Vis.still hG hf
  have hmv := fun W (hf : w.grownBy W none) (d : Int) (H : Nat) (hH : H < 18446744073709551616) => visit_moves hG hP hN hf ⟨d, 0, bv, 0, H, true⟩ hH
  unfold Opv.cs at hmv
  dsimp only at hmv
  obtain ⟨q, hq⟩ : ∃ q : Nat, dv % 5 = (q : Int) := ⟨(dv % 5).toNat, by omega⟩
  have hq5 : q < 5 := by omega
  have hwd := fun W => within_any dv 5 (by omega) (by omega) W
  rw [hq] at hwd
  have ht40 := ht4 _ hal
  have hbk := fun W (hf : (w.alloc (.cells #[.int .i64 dv, .int .i64 av, .int .i64 bv, .bool ot, .bool lv] 52)).grownBy W none) => hb0.kept hf (by simp)
  have u0 := hb0.cell 0
  have u1 := hb0.cell 1
  have u2 := hb0.cell 2
  have u3 := hb0.cell 3
  simp only [List.getElem?_toArray, List.getElem?_cons_zero, List.getElem?_cons_succ] at u0 u1 u2 u3
  obtain ⟨W1, hW1⟩ : ∃ W1, w.alloc (.cells #[.int .i64 dv, .int .i64 av, .int .i64 bv, .bool ot, .bool lv] 52) = W1 := ⟨_, rfl⟩
  have hz1 : W1.heap.size = w.heap.size + 1 := by rw [← hW1]; simp
  rw [hW1] at hal hb0 ht40 hbk u0 u1 u2 u3
  have HAL : Hid (w.grownBy W1 none) := hal
  have HZ1 : Hid (W1.heap.size = w.heap.size + 1) := hz1
  have HQ : Hid (dv % 5 = (q : Int)) := hq
  clear hG hP hal hb0 hz1 hq
  -- the call
  have fin : ∀ (V : World) (H : Nat), H < 18446744073709551616 → W1.grownBy V none → ∀ (d : Int), Calls Tryz.prog 60 #[.pointer (some ⟨wb, 0, none⟩), .agg #[.int .i64 d, .int .i64 0, .int .i64 bv, .int .i64 0, .int .u64 H, .bool true]] (V.alloc (.cells #[.int .i64 d, .int .i64 0, .int .i64 bv, .int .i64 0, .int .u64 H, .bool true] 28)) fun y w' => y = .returned (.bool true) ∧ Hid (Vis w w' P wb N D lsb) := fun V H hH hV d =>
    hmv _ (gb_trans HAL.out (gb_trans hV (World.grownBy_alloc V _ none))) d H hH
  have fst : ∀ V : World, W1.grownBy V none → ∀ o : Obj, Hid (Vis w (V.alloc o) P wb N D lsb) := fun V hV o => hst _ (gb_trans HAL.out (gb_trans hV (World.grownBy_alloc V o none)))
  clear hst hmv
  by_cases hcs : ot = true ∧ 0 < D.xt.length
  · obtain ⟨rfl, h0⟩ := hcs
    obtain ⟨tg, rfl, htd⟩ := htg h0
    obtain ⟨ki, hki⟩ : ∃ ki : Nat, av % (D.xt.length : Int) = (ki : Int) := ⟨(av % (D.xt.length : Int)).toNat, by have := Int.emod_nonneg av (show (D.xt.length : Int) ≠ 0 by omega); omega⟩
    have hkl : ki < D.xt.length := by have := Int.emod_lt_of_pos av (show (0 : Int) < D.xt.length by omega); omega
    obtain ⟨H, hHx⟩ : ∃ H, D.xt[ki]? = some H := ⟨D.xt[ki], List.getElem?_eq_getElem hkl⟩
    have hH := htb H (List.mem_of_getElem? hHx)
    have hwa := fun W => within_any av (D.xt.length : Int) (by omega) (by omega) W
    rw [hki] at hwa
    have l0 : (D.xt.length : Int) > 0 := by omega
    have l1 : decide ((D.xt.length : Int) > 0) = true := decide_eq_true l0
    have l2 : (ki : Int) < D.xt.length := by omega
    have l3 : ¬ (ki : Int) < 0 := by omega
    have hk0 : W1.drew.cell? ⟨wb, 4, none⟩ = some (.slice (some ⟨tg, 0, none⟩) D.xt.length tc) ∧ W1.drew.cell? ⟨w.heap.size, 1, none⟩ = some (.int .i64 av) ∧ W1.drew.cell? ⟨tg, ki, none⟩ = some (.int .u64 (H : Nat)) := ⟨ht4 _ (gb_trans HAL.out (gb_drew (gb_refl _ _))), (hbk _ (gb_drew (gb_refl _ _))).cell 1, htd _ (gb_trans HAL.out (gb_drew (gb_refl _ _))) ki H hHx⟩
    have v0' := (hbk _ (gb_drew (gb_refl W1 none))).cell 0
    have v2' := (hbk _ (gb_drew (gb_refl W1 none))).cell 2
    simp only [List.getElem?_toArray, List.getElem?_cons_zero, List.getElem?_cons_succ] at v0' v2'
    have HHx : Hid (D.xt[ki]? = some H) := hHx
    clear htd ht4 htg htb hHx hki hT3 h64
    go_enter Tryz.func21, Tryz.ntmps21
    go_wp2
    go_region_held3 (fun W => W.cell? ⟨wb, 4, none⟩ = some (.slice (some ⟨tg, 0, none⟩) D.xt.length tc) ∧ W.cell? ⟨w.heap.size, 1, none⟩ = some (.int .i64 av) ∧ W.cell? ⟨tg, ki, none⟩ = some (.int .u64 (H : Nat))) ((first | with_reducible exact hk0 | go_keep)) ((first | (go_at_call 18; with_reducible refine (hwa _).mono ?_; rintro y w' ⟨rfl, rfl⟩)))
    have hV : W1.grownBy W1.drew none := gb_drew (gb_refl _ _)
    obtain ⟨V, hVe⟩ : ∃ V, W1.drew = V := ⟨_, rfl⟩
    rw [hVe] at hV v0' v2' ⊢
    have v0 := v0'
    have v2 := v2'
    clear hk0 hwa v0' v2' hVe
    have fin' := fun d => fin V H hH hV d
    have fst' := fun o => fst V hV o
    have w2 : ∀ o, (V.alloc o).cell? ⟨w.heap.size, 0, none⟩ = some (.int .i64 dv) := fun o => gb_cellN (World.grownBy_alloc V o none) v0
    clear fin fst hV hH
    have hq5' : q = 1 ∨ q = 2 ∨ q = 3 ∨ q = 4 ∨ q = 0 := by omega
    rcases hq5' with rfl | rfl | rfl | rfl | rfl
    · go_wp2_with (first | (go_at_call 18; go_must (refine (hwd _).mono ?_); rintro y w' ⟨rfl, rfl⟩) | (go_at_call 60; go_must (with_reducible refine (fin' 6).mono ?_); rintro y w3 ⟨rfl, hV3⟩) | fail)
      go_ret
      exact ⟨rfl, hV3.out⟩
    · go_wp2_with (first | (go_at_call 18; go_must (refine (hwd _).mono ?_); rintro y w' ⟨rfl, rfl⟩) | (go_at_call 60; go_must (with_reducible refine (fin' 7).mono ?_); rintro y w3 ⟨rfl, hV3⟩) | fail)
      go_ret
      exact ⟨rfl, hV3.out⟩
    · go_wp2_with (first | (go_at_call 18; go_must (refine (hwd _).mono ?_); rintro y w' ⟨rfl, rfl⟩) | (go_at_call 60; go_must (with_reducible refine (fin' 4).mono ?_); rintro y w3 ⟨rfl, hV3⟩) | fail)
      go_ret
      exact ⟨rfl, hV3.out⟩
    · go_wp2_with (first | (go_at_call 18; go_must (refine (hwd _).mono ?_); rintro y w' ⟨rfl, rfl⟩) | (go_at_call 60; go_must (with_reducible refine (fin' 5).mono ?_); rintro y w3 ⟨rfl, hV3⟩) | fail)
      go_ret
      exact ⟨rfl, hV3.out⟩
    · go_wp2_with (first | (go_at_call 18; go_must (refine (hwd _).mono ?_); rintro y w' ⟨rfl, rfl⟩) | fail)
      go_ret
      exact ⟨rfl, (fst' _).out⟩
  · have e0 : ot = false ∨ (ot = true ∧ D.xt.length = 0) := by
      cases ot
      · exact .inl rfl
      · exact .inr ⟨rfl, by have : ¬ 0 < D.xt.length := fun h => hcs ⟨rfl, h⟩; omega⟩
    have hV := gb_refl W1 none
    have v0 := u0
    have hH := h64
    obtain ⟨H, hHe⟩ : ∃ H, h = H := ⟨_, rfl⟩
    rw [hHe] at hH ⊢
    clear HAL HZ1 hbk htg ht4 htb hcs h64
    go_enter Tryz.func21, Tryz.ntmps21
    rcases e0 with rfl | ⟨rfl, e0⟩
    · clear ht40
      have fin' := fun d => fin W1 H hH hV d
      have fst' := fun o => fst W1 hV o
      have w2 : ∀ o, (W1.alloc o).cell? ⟨w.heap.size, 0, none⟩ = some (.int .i64 dv) := fun o => gb_cellN (World.grownBy_alloc W1 o none) v0
      clear fin fst hV hH
      have hq5' : q = 1 ∨ q = 2 ∨ q = 3 ∨ q = 4 ∨ q = 0 := by omega
      rcases hq5' with rfl | rfl | rfl | rfl | rfl
      · go_wp2_with (first | (go_at_call 18; go_must (refine (hwd _).mono ?_); rintro y w' ⟨rfl, rfl⟩) | (go_at_call 60; go_must (with_reducible refine (fin' 6).mono ?_); rintro y w3 ⟨rfl, hV3⟩) | fail)
        go_ret
        exact ⟨rfl, hV3.out⟩
      · go_wp2_with (first | (go_at_call 18; go_must (refine (hwd _).mono ?_); rintro y w' ⟨rfl, rfl⟩) | (go_at_call 60; go_must (with_reducible refine (fin' 7).mono ?_); rintro y w3 ⟨rfl, hV3⟩) | fail)
        go_ret
        exact ⟨rfl, hV3.out⟩
      · go_wp2_with (first | (go_at_call 18; go_must (refine (hwd _).mono ?_); rintro y w' ⟨rfl, rfl⟩) | (go_at_call 60; go_must (with_reducible refine (fin' 4).mono ?_); rintro y w3 ⟨rfl, hV3⟩) | fail)
        go_ret
        exact ⟨rfl, hV3.out⟩
      · go_wp2_with (first | (go_at_call 18; go_must (refine (hwd _).mono ?_); rintro y w' ⟨rfl, rfl⟩) | (go_at_call 60; go_must (with_reducible refine (fin' 5).mono ?_); rintro y w3 ⟨rfl, hV3⟩) | fail)
        go_ret
        exact ⟨rfl, hV3.out⟩
      · go_wp2_with (first | (go_at_call 18; go_must (refine (hwd _).mono ?_); rintro y w' ⟨rfl, rfl⟩) | fail)
        go_ret
        exact ⟨rfl, (fst' _).out⟩
    · rw [e0] at ht40
      clear e0 hT3
      have fin' := fun d => fin W1 H hH hV d
      have fst' := fun o => fst W1 hV o
      have w2 : ∀ o, (W1.alloc o).cell? ⟨w.heap.size, 0, none⟩ = some (.int .i64 dv) := fun o => gb_cellN (World.grownBy_alloc W1 o none) v0
      clear fin fst hV hH
      have hq5' : q = 1 ∨ q = 2 ∨ q = 3 ∨ q = 4 ∨ q = 0 := by omega
      rcases hq5' with rfl | rfl | rfl | rfl | rfl
      · go_wp2_with (first | (go_at_call 18; go_must (refine (hwd _).mono ?_); rintro y w' ⟨rfl, rfl⟩) | (go_at_call 60; go_must (with_reducible refine (fin' 6).mono ?_); rintro y w3 ⟨rfl, hV3⟩) | fail)
        go_ret
        exact ⟨rfl, hV3.out⟩
      · go_wp2_with (first | (go_at_call 18; go_must (refine (hwd _).mono ?_); rintro y w' ⟨rfl, rfl⟩) | (go_at_call 60; go_must (with_reducible refine (fin' 7).mono ?_); rintro y w3 ⟨rfl, hV3⟩) | fail)
        go_ret
        exact ⟨rfl, hV3.out⟩
      · go_wp2_with (first | (go_at_call 18; go_must (refine (hwd _).mono ?_); rintro y w' ⟨rfl, rfl⟩) | (go_at_call 60; go_must (with_reducible refine (fin' 4).mono ?_); rintro y w3 ⟨rfl, hV3⟩) | fail)
        go_ret
        exact ⟨rfl, hV3.out⟩
      · go_wp2_with (first | (go_at_call 18; go_must (refine (hwd _).mono ?_); rintro y w' ⟨rfl, rfl⟩) | (go_at_call 60; go_must (with_reducible refine (fin' 5).mono ?_); rintro y w3 ⟨rfl, hV3⟩) | fail)
        go_ret
        exact ⟨rfl, hV3.out⟩
      · go_wp2_with (first | (go_at_call 18; go_must (refine (hwd _).mono ?_); rintro y w' ⟨rfl, rfl⟩) | fail)
        go_ret
        exact ⟨rfl, (fst' _).out⟩
end
end Go.Proofs.YtjkdflnnpdionaaGreat
