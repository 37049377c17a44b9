import Derived.Test.YtohneboimmcocaaGreatMe
/-
  Lru: a step.
-/
namespace Go.Proofs.YtohneboimmcocaaGreat
open Go.RowKit
set_option linter.unusedVariables false

/-- No move is due for a list's tail. -/
def Rst (X : Nat → Nat → List Nat) (mk : Nat → Nat) (ci hot warm k : Nat) : Prop := X ci k = [] ∨ ∃ U H, X ci k = U ++ [H] ∧ bhd X ci hot warm k (decide (mk H % 2 = 1)) = 0

set_option maxRecDepth 100000 in
theorem ix0 (w : World) : (Instr.index 164 (.agg #[.int .i64 1, .func (.func 150) #[] #[], .int .i64 2, .func (.func 151) #[] #[], .int .i64 3, .func (.func 152) #[] #[]]) (.int .i64 0)).run Tryz.prog w = .ok (.agg #[.int .i64 1, .func (.func 150) #[] #[]]) w := by kernel_rfl
set_option maxRecDepth 100000 in
theorem ix1 (w : World) : (Instr.index 164 (.agg #[.int .i64 1, .func (.func 150) #[] #[], .int .i64 2, .func (.func 151) #[] #[], .int .i64 3, .func (.func 152) #[] #[]]) (.int .i64 1)).run Tryz.prog w = .ok (.agg #[.int .i64 2, .func (.func 151) #[] #[]]) w := by kernel_rfl
set_option maxRecDepth 100000 in
theorem ix2 (w : World) : (Instr.index 164 (.agg #[.int .i64 1, .func (.func 150) #[] #[], .int .i64 2, .func (.func 151) #[] #[], .int .i64 3, .func (.func 152) #[] #[]]) (.int .i64 2)).run Tryz.prog w = .ok (.agg #[.int .i64 3, .func (.func 152) #[] #[]]) w := by kernel_rfl

section
variable {w : World} {xb sb qb gl gc : Nat} {F : Nat → Prop} {B : Bl} {b c d e f g : Int} {A : Ab} {m : List Int} {T : List Nat} {bs : Nat → It} {cls : Nat → Nat} {X : Nat → Nat → List Nat} {mk : Nat → Nat} {hot warm : Nat}
theorem LQ.mem (h : LQ w xb sb qb gl gc F B b c d e f g A m T bs cls X mk hot warm) {ci k H : Nat} (hm : H ∈ X ci k) : H ∈ T ∧ cls H = ci ∧ H ≠ 0 := by
  obtain ⟨p, n, s, L, _, hI⟩ := h.ql.ex
  obtain ⟨h1, _, h3⟩ := hI.sub _ _ H hm
  exact ⟨h1, h3, fun e => hI.z (e ▸ h1)⟩
set_option maxRecDepth 100000 in
set_option maxHeartbeats 4000000 in
theorem step_60 (h : LQ w xb sb qb gl gc F B b c d e f g A m T bs cls X mk hot warm) {ci : Nat} (hc : ci < A.n) (hsh : hot ≤ 100) (hsw : warm ≤ 100) (hlen : ∀ k, (X ci k).length < 1099511627776) :
    Calls Tryz.prog 60 #[.pointer (some ⟨xb, 0, none⟩), .int .i64 ci, Value.nilFunc] w fun y w' => (y = .returned (.bool false) ∧ w.grownBy w' none ∧ ∀ k, k < 3 → Rst X mk ci hot warm k) ∨ (y = .returned (.bool true) ∧ ∃ k U H k2, k < 3 ∧ (∀ j, j < k → Rst X mk ci hot warm j) ∧ X ci k = U ++ [H] ∧ bhd X ci hot warm k (decide (mk H % 2 = 1)) = k2 + 1 ∧ k2 < 3 ∧ Kp (fun k => F k ∨ k = gl) w w' ∧ LQ w' xb sb qb gl gc F B b c d e f g A m T (upB bs H (mk H - mk H % 2)) cls (upX (upX X ci k U) ci k2 (H :: (upX X ci k U) ci k2)) (upf mk H (mk H - mk H % 2)) hot warm) := by
  have htl0 := fun W (hf : w.grownBy W none) v hv => q_tailL (h.kept0 hf).ql hc (k := 0) (by omega) v hv
  have htl1 := fun W (hf : w.grownBy W none) v hv => q_tailL (h.kept0 hf).ql hc (k := 1) (by omega) v hv
  have htl2 := fun W (hf : w.grownBy W none) v hv => q_tailL (h.kept0 hf).ql hc (k := 2) (by omega) v hv
  simp only [show ((0 : Nat) : Int) + 1 = 1 from rfl, show ((1 : Nat) : Int) + 1 = 2 from rfl, show ((2 : Nat) : Int) + 1 = 3 from rfl] at htl0 htl1 htl2
  have h107 := fun W => follows_107 W
  have HL : Hid _ := h
  clear h
  unfold flw at h107
  go_enter Tryz.func60, Tryz.ntmps60
  go_wp2_with (go_at_call 107; go_must (refine (h107 _).mono ?_); rintro y w1 ⟨rfl, hf1⟩)
  go_loopw [13] (fun v wr => ∃ k : Nat, k ≤ 3 ∧ v = .int .i64 k ∧ w.grownBy wr none ∧ ∀ j, j < k → Rst X mk ci hot warm j) (fun v _ => 3 - (intOf v).toNat)
  case atStart => exact ⟨0, by omega, rfl, hf1, fun j hj => by omega⟩
  case round =>
    obtain ⟨k, hk, rfl, hf, hr⟩ := hrel
    by_cases hk3 : k = 3
    · subst hk3
      clear htl0 htl1 htl2 h107 hf1
      have HR : Hid _ := And.intro hf hr
      clear hf hr
      go_wp2
      go_ret
      exact .inl ⟨rfl, HR.out.1, HR.out.2⟩
    · have hkk : k = 0 ∨ k = 1 ∨ k = 2 := by omega
      rcases hkk with rfl | rfl | rfl
      · have hix := ix0
        have c1 : wr.cell? ⟨xb, 1, none⟩ = some (.pointer (some ⟨qb, 0, none⟩)) := (HL.out.kept0 hf).bx.cell 1
        obtain ⟨wa, hwa⟩ : ∃ wa, wr.alloc (.cells #[.int .i64 1, .func (.func 150) #[] #[]] 163) = wa := ⟨_, rfl⟩
        have hga : wr.grownBy wa none := hwa ▸ World.grownBy_alloc wr _ none
        have hfa := gb_trans hf hga
        have hba : Box wa 163 wr.heap.size #[.int .i64 1, .func (.func 150) #[] #[]] := hwa ▸ Box.new wr 163 _
        have hdr : wa.grownBy wa.drew none := gb_drew (gb_refl _ _)
        have hfd := gb_trans hfa hdr
        have hC : ∀ W, wa.grownBy W none → W.cell? ⟨xb, 1, none⟩ = some (.pointer (some ⟨qb, 0, none⟩)) ∧ W.cell? ⟨wr.heap.size, 0, none⟩ = some (.int .i64 1) := fun W h => ⟨(HL.out.kept0 (gb_trans hfa h)).bx.cell 1, (hba.kept h (by simp)).cell 0⟩
        have hC1 : ∀ W, wa.grownBy W none → W.cell? ⟨wr.heap.size, 1, none⟩ = some (.func (.func 150) #[] #[]) := fun W h => (hba.kept h (by simp)).cell 1
        have hD := hC _ hdr
        clear c1 hga hba
        rcases List.eq_nil_or_concat (X ci 0) with hX | ⟨U, H, hX⟩
        · have ht := fun W (hf : w.grownBy W none) => (htl0 W hf 0 (by rw [hX]; rfl))
          simp only [show ((0 : Nat) : Int) = 0 from rfl] at ht
          have HR : Hid (∀ j, j < 1 → Rst X mk ci hot warm j) := fun j hj => by
            rcases Nat.lt_or_ge j 0 with h1 | h1
            · exact hr j h1
            · obtain rfl : j = 0 := by omega
              exact .inl hX
          clear htl0 htl1 htl2 h107 hf1 hr hC1 hlen
          go_wp2
          clear hwa hix
          go_region_held3 (fun w' => w'.cell? ⟨xb, 1, none⟩ = some (.pointer (some ⟨qb, 0, none⟩)) ∧ w'.cell? ⟨wr.heap.size, 0, none⟩ = some (.int .i64 1)) ((first | with_reducible exact hE2 | with_reducible exact hD | go_keep)) ((go_at_call 20; with_reducible refine (ht _ hfd).mono ?_; rintro y w2 ⟨rfl, hg2⟩; (have hE2 := hC _ (gb_trans hdr hg2))))
          have hF2 := gb_trans hfd hg2
          clear ht hC hD hE2
          go_wp2
          exact ⟨⟨1, by omega, by go_num, hF2, HR.out⟩, by simp [intOf]⟩
        · rw [List.concat_eq_append] at hX
          obtain ⟨hT, hcl, hH0⟩ := HL.out.mem (show H ∈ X ci 0 by rw [hX]; simp)
          have ht := fun W (hf : w.grownBy W none) => (htl0 W hf H (by rw [hX]; simp))
          simp only [show decide (¬ H = 0) = true from decide_eq_true hH0] at ht
          have hac := fun W (hf : w.grownBy W none) => active_81 (HL.out.kept0 hf) hT
          obtain ⟨act, hact⟩ : ∃ act, decide (mk H % 2 = 1) = act := ⟨_, rfl⟩
          simp only [hact] at hac
          have hbh := fun W (hf : w.grownBy W none) => (show Calls Tryz.prog 150 #[.pointer (some ⟨xb, 0, none⟩), .int .i64 ci, .bool act] W fun y w' => y = .returned (.int .i64 (bhd X ci hot warm 0 act : Nat)) ∧ W.grownBy w' none by
            rw [show bhd X ci hot warm 0 act = spl X ci 0 hot act from if_pos rfl]
            exact behind_150 (HL.out.kept0 hf) hc hsh _)
          rcases Nat.eq_zero_or_pos (bhd X ci hot warm 0 act) with hz | hz
          · rw [hz] at hbh
            simp only [show ((0 : Nat) : Int) = 0 from rfl] at hbh
            have HR : Hid (∀ j, j < 1 → Rst X mk ci hot warm j) := fun j hj => by
              rcases Nat.lt_or_ge j 0 with h1 | h1
              · exact hr j h1
              · obtain rfl : j = 0 := by omega
                exact .inr ⟨U, H, hX, by rw [hact, hz]⟩
            clear htl0 htl1 htl2 h107 hf1 hr hlen hX hact hz hT hcl
            go_wp2
            clear hwa hix
            go_region_held3 (fun w' => w'.cell? ⟨xb, 1, none⟩ = some (.pointer (some ⟨qb, 0, none⟩)) ∧ w'.cell? ⟨wr.heap.size, 0, none⟩ = some (.int .i64 1)) ((first | with_reducible exact hE2 | with_reducible exact hD | go_keep)) ((go_at_call 20; with_reducible refine (ht _ hfd).mono ?_; rintro y w2 ⟨rfl, hg2⟩; (have hE2 := hC _ (gb_trans hdr hg2))))
            have hF2 := gb_trans hfd hg2
            have hd2 : w2.grownBy w2.drew none := gb_drew (gb_refl _ _)
            have hF3 := gb_trans hF2 hd2
            have c5 := hC1 _ (gb_trans (gb_trans hdr hg2) hd2)
            have hG2 := gb_trans (gb_trans hdr hg2) hd2
            clear ht hC hD hE2
            go_wp2
            go_region_held3 (fun w' => w'.cell? ⟨wr.heap.size, 1, none⟩ = some (.func (.func 150) #[] #[])) ((first | with_reducible exact c7 | with_reducible exact c6 | with_reducible exact c5 | go_keep)) ((first | (go_at_call 81; with_reducible refine (hac _ hF3).mono ?_; rintro y w4 ⟨rfl, hg4⟩; (have hF4 := gb_trans hF3 hg4); (have hG4 := gb_trans hG2 hg4); (have c6 := hC1 _ hG4)) | (go_at_call 150; with_reducible refine (hbh _ hF4).mono ?_; rintro y w5 ⟨rfl, hg5⟩; (have c7 := hC1 _ (gb_trans hG4 hg5)))))
            have hF5 := gb_trans hF4 hg5
            clear hac hbh hC1 c5 c6 c7
            go_wp2
            exact ⟨⟨1, by omega, by go_num, hF5, HR.out⟩, by simp [intOf]⟩
          · obtain ⟨k2, hk2⟩ : ∃ k2, bhd X ci hot warm 0 act = k2 + 1 := ⟨bhd X ci hot warm 0 act - 1, by omega⟩
            have hk23 : k2 < 3 := by
              have : bhd X ci hot warm 0 act ≤ 3 := by unfold bhd spl; (repeat' split) <;> omega
              omega
            rw [hk2] at hbh
            simp only [show ((k2 + 1 : Nat) : Int) = (k2 : Int) + 1 from rfl] at hbh
            have hmv := fun W (hf : w.grownBy W none) => (move_108 (HL.out.kept0 hf) (H := H) (k := 0) (k2 := k2) (U := U) (V := []) (by rw [hcl]; exact hX) hk23 (by rw [hcl]; exact hlen k2)).mono (R' := fun y w' => y = .returned (.tuple #[]) ∧ Hid (∃ k U H k2, k < 3 ∧ (∀ j, j < k → Rst X mk ci hot warm j) ∧ X ci k = U ++ [H] ∧ bhd X ci hot warm k (decide (mk H % 2 = 1)) = k2 + 1 ∧ k2 < 3 ∧ Kp (fun k => F k ∨ k = gl) w w' ∧ LQ w' xb sb qb gl gc F B b c d e f g A m T (upB bs H (mk H - mk H % 2)) cls (upX (upX X ci k U) ci k2 (H :: (upX X ci k U) ci k2)) (upf mk H (mk H - mk H % 2)) hot warm)) (by
              rintro y w' ⟨rfl, hK, hL⟩
              rw [hcl, List.append_nil] at hL
              exact ⟨rfl, 0, U, H, k2, by omega, hr, hX, by rw [hact, hk2], hk23, (Kp.of hf).trans hK (fun _ h => h) (fun k hk => .inl hk), hL⟩)
            have hne : ¬ (k2 : Int) + 1 = 0 := by omega
            clear htl0 htl1 htl2 h107 hf1 hr hlen hX hact hz hT hcl HL hk2 hk23
            go_wp2
            clear hwa hix
            go_region_held3 (fun w' => w'.cell? ⟨xb, 1, none⟩ = some (.pointer (some ⟨qb, 0, none⟩)) ∧ w'.cell? ⟨wr.heap.size, 0, none⟩ = some (.int .i64 1)) ((first | with_reducible exact hE2 | with_reducible exact hD | go_keep)) ((go_at_call 20; with_reducible refine (ht _ hfd).mono ?_; rintro y w2 ⟨rfl, hg2⟩; (have hE2 := hC _ (gb_trans hdr hg2))))
            have hF2 := gb_trans hfd hg2
            have hd2 : w2.grownBy w2.drew none := gb_drew (gb_refl _ _)
            have hF3 := gb_trans hF2 hd2
            have c5 := hC1 _ (gb_trans (gb_trans hdr hg2) hd2)
            have hG2 := gb_trans (gb_trans hdr hg2) hd2
            clear ht hC hD hE2
            go_wp2
            go_region_held3 (fun w' => w'.cell? ⟨wr.heap.size, 1, none⟩ = some (.func (.func 150) #[] #[])) ((first | with_reducible exact c7 | with_reducible exact c6 | with_reducible exact c5 | go_keep)) ((first | (go_at_call 81; with_reducible refine (hac _ hF3).mono ?_; rintro y w4 ⟨rfl, hg4⟩; (have hF4 := gb_trans hF3 hg4); (have hG4 := gb_trans hG2 hg4); (have c6 := hC1 _ hG4)) | (go_at_call 150; with_reducible refine (hbh _ hF4).mono ?_; rintro y w5 ⟨rfl, hg5⟩; (have c7 := hC1 _ (gb_trans hG4 hg5)))))
            have hF5 := gb_trans hF4 hg5
            clear hac hbh hC1 c5 c6 c7
            go_wp2_with (go_at_call 108; go_must (with_reducible refine (hmv _ hF5).mono ?_); rintro y w6 ⟨rfl, hE6⟩)
            go_ret
            exact .inr ⟨rfl, hE6.out⟩
      · have hix := ix1
        have c1 : wr.cell? ⟨xb, 1, none⟩ = some (.pointer (some ⟨qb, 0, none⟩)) := (HL.out.kept0 hf).bx.cell 1
        obtain ⟨wa, hwa⟩ : ∃ wa, wr.alloc (.cells #[.int .i64 2, .func (.func 151) #[] #[]] 163) = wa := ⟨_, rfl⟩
        have hga : wr.grownBy wa none := hwa ▸ World.grownBy_alloc wr _ none
        have hfa := gb_trans hf hga
        have hba : Box wa 163 wr.heap.size #[.int .i64 2, .func (.func 151) #[] #[]] := hwa ▸ Box.new wr 163 _
        have hdr : wa.grownBy wa.drew none := gb_drew (gb_refl _ _)
        have hfd := gb_trans hfa hdr
        have hC : ∀ W, wa.grownBy W none → W.cell? ⟨xb, 1, none⟩ = some (.pointer (some ⟨qb, 0, none⟩)) ∧ W.cell? ⟨wr.heap.size, 0, none⟩ = some (.int .i64 2) := fun W h => ⟨(HL.out.kept0 (gb_trans hfa h)).bx.cell 1, (hba.kept h (by simp)).cell 0⟩
        have hC1 : ∀ W, wa.grownBy W none → W.cell? ⟨wr.heap.size, 1, none⟩ = some (.func (.func 151) #[] #[]) := fun W h => (hba.kept h (by simp)).cell 1
        have hD := hC _ hdr
        clear c1 hga hba
        rcases List.eq_nil_or_concat (X ci 1) with hX | ⟨U, H, hX⟩
        · have ht := fun W (hf : w.grownBy W none) => (htl1 W hf 0 (by rw [hX]; rfl))
          simp only [show ((0 : Nat) : Int) = 0 from rfl] at ht
          have HR : Hid (∀ j, j < 2 → Rst X mk ci hot warm j) := fun j hj => by
            rcases Nat.lt_or_ge j 1 with h1 | h1
            · exact hr j h1
            · obtain rfl : j = 1 := by omega
              exact .inl hX
          clear htl0 htl1 htl2 h107 hf1 hr hC1 hlen
          go_wp2
          clear hwa hix
          go_region_held3 (fun w' => w'.cell? ⟨xb, 1, none⟩ = some (.pointer (some ⟨qb, 0, none⟩)) ∧ w'.cell? ⟨wr.heap.size, 0, none⟩ = some (.int .i64 2)) ((first | with_reducible exact hE2 | with_reducible exact hD | go_keep)) ((go_at_call 20; with_reducible refine (ht _ hfd).mono ?_; rintro y w2 ⟨rfl, hg2⟩; (have hE2 := hC _ (gb_trans hdr hg2))))
          have hF2 := gb_trans hfd hg2
          clear ht hC hD hE2
          go_wp2
          exact ⟨⟨2, by omega, by go_num, hF2, HR.out⟩, by simp [intOf]⟩
        · rw [List.concat_eq_append] at hX
          obtain ⟨hT, hcl, hH0⟩ := HL.out.mem (show H ∈ X ci 1 by rw [hX]; simp)
          have ht := fun W (hf : w.grownBy W none) => (htl1 W hf H (by rw [hX]; simp))
          simp only [show decide (¬ H = 0) = true from decide_eq_true hH0] at ht
          have hac := fun W (hf : w.grownBy W none) => active_81 (HL.out.kept0 hf) hT
          obtain ⟨act, hact⟩ : ∃ act, decide (mk H % 2 = 1) = act := ⟨_, rfl⟩
          simp only [hact] at hac
          have hbh := fun W (hf : w.grownBy W none) => (show Calls Tryz.prog 151 #[.pointer (some ⟨xb, 0, none⟩), .int .i64 ci, .bool act] W fun y w' => y = .returned (.int .i64 (bhd X ci hot warm 1 act : Nat)) ∧ W.grownBy w' none by
            rw [show bhd X ci hot warm 1 act = spl X ci 1 warm act from (if_neg (by decide)).trans (if_pos rfl)]
            exact behind_151 (HL.out.kept0 hf) hc hsw _)
          rcases Nat.eq_zero_or_pos (bhd X ci hot warm 1 act) with hz | hz
          · rw [hz] at hbh
            simp only [show ((0 : Nat) : Int) = 0 from rfl] at hbh
            have HR : Hid (∀ j, j < 2 → Rst X mk ci hot warm j) := fun j hj => by
              rcases Nat.lt_or_ge j 1 with h1 | h1
              · exact hr j h1
              · obtain rfl : j = 1 := by omega
                exact .inr ⟨U, H, hX, by rw [hact, hz]⟩
            clear htl0 htl1 htl2 h107 hf1 hr hlen hX hact hz hT hcl
            go_wp2
            clear hwa hix
            go_region_held3 (fun w' => w'.cell? ⟨xb, 1, none⟩ = some (.pointer (some ⟨qb, 0, none⟩)) ∧ w'.cell? ⟨wr.heap.size, 0, none⟩ = some (.int .i64 2)) ((first | with_reducible exact hE2 | with_reducible exact hD | go_keep)) ((go_at_call 20; with_reducible refine (ht _ hfd).mono ?_; rintro y w2 ⟨rfl, hg2⟩; (have hE2 := hC _ (gb_trans hdr hg2))))
            have hF2 := gb_trans hfd hg2
            have hd2 : w2.grownBy w2.drew none := gb_drew (gb_refl _ _)
            have hF3 := gb_trans hF2 hd2
            have c5 := hC1 _ (gb_trans (gb_trans hdr hg2) hd2)
            have hG2 := gb_trans (gb_trans hdr hg2) hd2
            clear ht hC hD hE2
            go_wp2
            go_region_held3 (fun w' => w'.cell? ⟨wr.heap.size, 1, none⟩ = some (.func (.func 151) #[] #[])) ((first | with_reducible exact c7 | with_reducible exact c6 | with_reducible exact c5 | go_keep)) ((first | (go_at_call 81; with_reducible refine (hac _ hF3).mono ?_; rintro y w4 ⟨rfl, hg4⟩; (have hF4 := gb_trans hF3 hg4); (have hG4 := gb_trans hG2 hg4); (have c6 := hC1 _ hG4)) | (go_at_call 151; with_reducible refine (hbh _ hF4).mono ?_; rintro y w5 ⟨rfl, hg5⟩; (have c7 := hC1 _ (gb_trans hG4 hg5)))))
            have hF5 := gb_trans hF4 hg5
            clear hac hbh hC1 c5 c6 c7
            go_wp2
            exact ⟨⟨2, by omega, by go_num, hF5, HR.out⟩, by simp [intOf]⟩
          · obtain ⟨k2, hk2⟩ : ∃ k2, bhd X ci hot warm 1 act = k2 + 1 := ⟨bhd X ci hot warm 1 act - 1, by omega⟩
            have hk23 : k2 < 3 := by
              have : bhd X ci hot warm 1 act ≤ 3 := by unfold bhd spl; (repeat' split) <;> omega
              omega
            rw [hk2] at hbh
            simp only [show ((k2 + 1 : Nat) : Int) = (k2 : Int) + 1 from rfl] at hbh
            have hmv := fun W (hf : w.grownBy W none) => (move_108 (HL.out.kept0 hf) (H := H) (k := 1) (k2 := k2) (U := U) (V := []) (by rw [hcl]; exact hX) hk23 (by rw [hcl]; exact hlen k2)).mono (R' := fun y w' => y = .returned (.tuple #[]) ∧ Hid (∃ k U H k2, k < 3 ∧ (∀ j, j < k → Rst X mk ci hot warm j) ∧ X ci k = U ++ [H] ∧ bhd X ci hot warm k (decide (mk H % 2 = 1)) = k2 + 1 ∧ k2 < 3 ∧ Kp (fun k => F k ∨ k = gl) w w' ∧ LQ w' xb sb qb gl gc F B b c d e f g A m T (upB bs H (mk H - mk H % 2)) cls (upX (upX X ci k U) ci k2 (H :: (upX X ci k U) ci k2)) (upf mk H (mk H - mk H % 2)) hot warm)) (by
              rintro y w' ⟨rfl, hK, hL⟩
              rw [hcl, List.append_nil] at hL
              exact ⟨rfl, 1, U, H, k2, by omega, hr, hX, by rw [hact, hk2], hk23, (Kp.of hf).trans hK (fun _ h => h) (fun k hk => .inl hk), hL⟩)
            have hne : ¬ (k2 : Int) + 1 = 0 := by omega
            clear htl0 htl1 htl2 h107 hf1 hr hlen hX hact hz hT hcl HL hk2 hk23
            go_wp2
            clear hwa hix
            go_region_held3 (fun w' => w'.cell? ⟨xb, 1, none⟩ = some (.pointer (some ⟨qb, 0, none⟩)) ∧ w'.cell? ⟨wr.heap.size, 0, none⟩ = some (.int .i64 2)) ((first | with_reducible exact hE2 | with_reducible exact hD | go_keep)) ((go_at_call 20; with_reducible refine (ht _ hfd).mono ?_; rintro y w2 ⟨rfl, hg2⟩; (have hE2 := hC _ (gb_trans hdr hg2))))
            have hF2 := gb_trans hfd hg2
            have hd2 : w2.grownBy w2.drew none := gb_drew (gb_refl _ _)
            have hF3 := gb_trans hF2 hd2
            have c5 := hC1 _ (gb_trans (gb_trans hdr hg2) hd2)
            have hG2 := gb_trans (gb_trans hdr hg2) hd2
            clear ht hC hD hE2
            go_wp2
            go_region_held3 (fun w' => w'.cell? ⟨wr.heap.size, 1, none⟩ = some (.func (.func 151) #[] #[])) ((first | with_reducible exact c7 | with_reducible exact c6 | with_reducible exact c5 | go_keep)) ((first | (go_at_call 81; with_reducible refine (hac _ hF3).mono ?_; rintro y w4 ⟨rfl, hg4⟩; (have hF4 := gb_trans hF3 hg4); (have hG4 := gb_trans hG2 hg4); (have c6 := hC1 _ hG4)) | (go_at_call 151; with_reducible refine (hbh _ hF4).mono ?_; rintro y w5 ⟨rfl, hg5⟩; (have c7 := hC1 _ (gb_trans hG4 hg5)))))
            have hF5 := gb_trans hF4 hg5
            clear hac hbh hC1 c5 c6 c7
            go_wp2_with (go_at_call 108; go_must (with_reducible refine (hmv _ hF5).mono ?_); rintro y w6 ⟨rfl, hE6⟩)
            go_ret
            exact .inr ⟨rfl, hE6.out⟩
      · have hix := ix2
        have c1 : wr.cell? ⟨xb, 1, none⟩ = some (.pointer (some ⟨qb, 0, none⟩)) := (HL.out.kept0 hf).bx.cell 1
        obtain ⟨wa, hwa⟩ : ∃ wa, wr.alloc (.cells #[.int .i64 3, .func (.func 152) #[] #[]] 163) = wa := ⟨_, rfl⟩
        have hga : wr.grownBy wa none := hwa ▸ World.grownBy_alloc wr _ none
        have hfa := gb_trans hf hga
        have hba : Box wa 163 wr.heap.size #[.int .i64 3, .func (.func 152) #[] #[]] := hwa ▸ Box.new wr 163 _
        have hdr : wa.grownBy wa.drew none := gb_drew (gb_refl _ _)
        have hfd := gb_trans hfa hdr
        have hC : ∀ W, wa.grownBy W none → W.cell? ⟨xb, 1, none⟩ = some (.pointer (some ⟨qb, 0, none⟩)) ∧ W.cell? ⟨wr.heap.size, 0, none⟩ = some (.int .i64 3) := fun W h => ⟨(HL.out.kept0 (gb_trans hfa h)).bx.cell 1, (hba.kept h (by simp)).cell 0⟩
        have hC1 : ∀ W, wa.grownBy W none → W.cell? ⟨wr.heap.size, 1, none⟩ = some (.func (.func 152) #[] #[]) := fun W h => (hba.kept h (by simp)).cell 1
        have hD := hC _ hdr
        clear c1 hga hba
        rcases List.eq_nil_or_concat (X ci 2) with hX | ⟨U, H, hX⟩
        · have ht := fun W (hf : w.grownBy W none) => (htl2 W hf 0 (by rw [hX]; rfl))
          simp only [show ((0 : Nat) : Int) = 0 from rfl] at ht
          have HR : Hid (∀ j, j < 3 → Rst X mk ci hot warm j) := fun j hj => by
            rcases Nat.lt_or_ge j 2 with h1 | h1
            · exact hr j h1
            · obtain rfl : j = 2 := by omega
              exact .inl hX
          clear htl0 htl1 htl2 h107 hf1 hr hC1 hlen
          go_wp2
          clear hwa hix
          go_region_held3 (fun w' => w'.cell? ⟨xb, 1, none⟩ = some (.pointer (some ⟨qb, 0, none⟩)) ∧ w'.cell? ⟨wr.heap.size, 0, none⟩ = some (.int .i64 3)) ((first | with_reducible exact hE2 | with_reducible exact hD | go_keep)) ((go_at_call 20; with_reducible refine (ht _ hfd).mono ?_; rintro y w2 ⟨rfl, hg2⟩; (have hE2 := hC _ (gb_trans hdr hg2))))
          have hF2 := gb_trans hfd hg2
          clear ht hC hD hE2
          go_wp2
          exact ⟨⟨3, by omega, by go_num, hF2, HR.out⟩, by simp [intOf]⟩
        · rw [List.concat_eq_append] at hX
          obtain ⟨hT, hcl, hH0⟩ := HL.out.mem (show H ∈ X ci 2 by rw [hX]; simp)
          have ht := fun W (hf : w.grownBy W none) => (htl2 W hf H (by rw [hX]; simp))
          simp only [show decide (¬ H = 0) = true from decide_eq_true hH0] at ht
          have hac := fun W (hf : w.grownBy W none) => active_81 (HL.out.kept0 hf) hT
          obtain ⟨act, hact⟩ : ∃ act, decide (mk H % 2 = 1) = act := ⟨_, rfl⟩
          simp only [hact] at hac
          have hbh := fun W (hf : w.grownBy W none) => (show Calls Tryz.prog 152 #[.pointer (some ⟨xb, 0, none⟩), .int .i64 ci, .bool act] W fun y w' => y = .returned (.int .i64 (bhd X ci hot warm 2 act : Nat)) ∧ W.grownBy w' none by
            rw [show bhd X ci hot warm 2 act = (if act then 2 else 0) from (if_neg (by decide)).trans (if_neg (by decide))]
            exact (behind_152 xb ci _ W).mono (by rintro y w2 ⟨rfl, rfl⟩; exact ⟨by first | rfl | (split <;> rfl) | skip, gb_refl _ _⟩))
          rcases Nat.eq_zero_or_pos (bhd X ci hot warm 2 act) with hz | hz
          · rw [hz] at hbh
            simp only [show ((0 : Nat) : Int) = 0 from rfl] at hbh
            have HR : Hid (∀ j, j < 3 → Rst X mk ci hot warm j) := fun j hj => by
              rcases Nat.lt_or_ge j 2 with h1 | h1
              · exact hr j h1
              · obtain rfl : j = 2 := by omega
                exact .inr ⟨U, H, hX, by rw [hact, hz]⟩
            clear htl0 htl1 htl2 h107 hf1 hr hlen hX hact hz hT hcl
            go_wp2
            clear hwa hix
            go_region_held3 (fun w' => w'.cell? ⟨xb, 1, none⟩ = some (.pointer (some ⟨qb, 0, none⟩)) ∧ w'.cell? ⟨wr.heap.size, 0, none⟩ = some (.int .i64 3)) ((first | with_reducible exact hE2 | with_reducible exact hD | go_keep)) ((go_at_call 20; with_reducible refine (ht _ hfd).mono ?_; rintro y w2 ⟨rfl, hg2⟩; (have hE2 := hC _ (gb_trans hdr hg2))))
            have hF2 := gb_trans hfd hg2
            have hd2 : w2.grownBy w2.drew none := gb_drew (gb_refl _ _)
            have hF3 := gb_trans hF2 hd2
            have c5 := hC1 _ (gb_trans (gb_trans hdr hg2) hd2)
            have hG2 := gb_trans (gb_trans hdr hg2) hd2
            clear ht hC hD hE2
            go_wp2
            go_region_held3 (fun w' => w'.cell? ⟨wr.heap.size, 1, none⟩ = some (.func (.func 152) #[] #[])) ((first | with_reducible exact c7 | with_reducible exact c6 | with_reducible exact c5 | go_keep)) ((first | (go_at_call 81; with_reducible refine (hac _ hF3).mono ?_; rintro y w4 ⟨rfl, hg4⟩; (have hF4 := gb_trans hF3 hg4); (have hG4 := gb_trans hG2 hg4); (have c6 := hC1 _ hG4)) | (go_at_call 152; with_reducible refine (hbh _ hF4).mono ?_; rintro y w5 ⟨rfl, hg5⟩; (have c7 := hC1 _ (gb_trans hG4 hg5)))))
            have hF5 := gb_trans hF4 hg5
            clear hac hbh hC1 c5 c6 c7
            go_wp2
            exact ⟨⟨3, by omega, by go_num, hF5, HR.out⟩, by simp [intOf]⟩
          · obtain ⟨k2, hk2⟩ : ∃ k2, bhd X ci hot warm 2 act = k2 + 1 := ⟨bhd X ci hot warm 2 act - 1, by omega⟩
            have hk23 : k2 < 3 := by
              have : bhd X ci hot warm 2 act ≤ 3 := by unfold bhd spl; (repeat' split) <;> omega
              omega
            rw [hk2] at hbh
            simp only [show ((k2 + 1 : Nat) : Int) = (k2 : Int) + 1 from rfl] at hbh
            have hmv := fun W (hf : w.grownBy W none) => (move_108 (HL.out.kept0 hf) (H := H) (k := 2) (k2 := k2) (U := U) (V := []) (by rw [hcl]; exact hX) hk23 (by rw [hcl]; exact hlen k2)).mono (R' := fun y w' => y = .returned (.tuple #[]) ∧ Hid (∃ k U H k2, k < 3 ∧ (∀ j, j < k → Rst X mk ci hot warm j) ∧ X ci k = U ++ [H] ∧ bhd X ci hot warm k (decide (mk H % 2 = 1)) = k2 + 1 ∧ k2 < 3 ∧ Kp (fun k => F k ∨ k = gl) w w' ∧ LQ w' xb sb qb gl gc F B b c d e f g A m T (upB bs H (mk H - mk H % 2)) cls (upX (upX X ci k U) ci k2 (H :: (upX X ci k U) ci k2)) (upf mk H (mk H - mk H % 2)) hot warm)) (by
              rintro y w' ⟨rfl, hK, hL⟩
              rw [hcl, List.append_nil] at hL
              exact ⟨rfl, 2, U, H, k2, by omega, hr, hX, by rw [hact, hk2], hk23, (Kp.of hf).trans hK (fun _ h => h) (fun k hk => .inl hk), hL⟩)
            have hne : ¬ (k2 : Int) + 1 = 0 := by omega
            clear htl0 htl1 htl2 h107 hf1 hr hlen hX hact hz hT hcl HL hk2 hk23
            go_wp2
            clear hwa hix
            go_region_held3 (fun w' => w'.cell? ⟨xb, 1, none⟩ = some (.pointer (some ⟨qb, 0, none⟩)) ∧ w'.cell? ⟨wr.heap.size, 0, none⟩ = some (.int .i64 3)) ((first | with_reducible exact hE2 | with_reducible exact hD | go_keep)) ((go_at_call 20; with_reducible refine (ht _ hfd).mono ?_; rintro y w2 ⟨rfl, hg2⟩; (have hE2 := hC _ (gb_trans hdr hg2))))
            have hF2 := gb_trans hfd hg2
            have hd2 : w2.grownBy w2.drew none := gb_drew (gb_refl _ _)
            have hF3 := gb_trans hF2 hd2
            have c5 := hC1 _ (gb_trans (gb_trans hdr hg2) hd2)
            have hG2 := gb_trans (gb_trans hdr hg2) hd2
            clear ht hC hD hE2
            go_wp2
            go_region_held3 (fun w' => w'.cell? ⟨wr.heap.size, 1, none⟩ = some (.func (.func 152) #[] #[])) ((first | with_reducible exact c7 | with_reducible exact c6 | with_reducible exact c5 | go_keep)) ((first | (go_at_call 81; with_reducible refine (hac _ hF3).mono ?_; rintro y w4 ⟨rfl, hg4⟩; (have hF4 := gb_trans hF3 hg4); (have hG4 := gb_trans hG2 hg4); (have c6 := hC1 _ hG4)) | (go_at_call 152; with_reducible refine (hbh _ hF4).mono ?_; rintro y w5 ⟨rfl, hg5⟩; (have c7 := hC1 _ (gb_trans hG4 hg5)))))
            have hF5 := gb_trans hF4 hg5
            clear hac hbh hC1 c5 c6 c7
            go_wp2_with (go_at_call 108; go_must (with_reducible refine (hmv _ hF5).mono ?_); rintro y w6 ⟨rfl, hE6⟩)
            go_ret
            exact .inr ⟨rfl, hE6.out⟩
end
end Go.Proofs.YtohneboimmcocaaGreat
/-
  Lru: Balance.
-/
namespace Go.Proofs.YtohneboimmcocaaGreat
open Go.RowKit
set_option linter.unusedVariables false

/-- Where the tail of a list goes now; 0: nowhere. -/
def due (X : Nat → Nat → List Nat) (mk : Nat → Nat) (ci hot warm k : Nat) : Nat := match (X ci k).getLast? with
  | none => 0
  | some H => bhd X ci hot warm k (decide (mk H % 2 = 1))
/-- Lists and marks. -/
structure Lm where
  X : Nat → Nat → List Nat
  ma : Nat → Nat
def mvd (S : Lm) (ci k k2 : Nat) : Lm := ⟨upX (upX S.X ci k (S.X ci k).dropLast) ci k2 ((S.X ci k).getLastD 0 :: (upX S.X ci k (S.X ci k).dropLast) ci k2), upf S.ma ((S.X ci k).getLastD 0) (S.ma ((S.X ci k).getLastD 0) - S.ma ((S.X ci k).getLastD 0) % 2)⟩
/-- The step that is due. -/
def nxt8 (S : Lm) (ci hot warm : Nat) : Option Lm :=
  if due S.X S.ma ci hot warm 0 ≠ 0 then some (mvd S ci 0 (due S.X S.ma ci hot warm 0 - 1))
  else if due S.X S.ma ci hot warm 1 ≠ 0 then some (mvd S ci 1 (due S.X S.ma ci hot warm 1 - 1))
  else if due S.X S.ma ci hot warm 2 ≠ 0 then some (mvd S ci 2 (due S.X S.ma ci hot warm 2 - 1))
  else none
/-- So many steps at the most: how many, and what is there then. -/
def bal (ci hot warm : Nat) : Nat → Lm → Nat × Lm
  | 0, S => (0, S)
  | n + 1, S => match nxt8 S ci hot warm with
    | none => (0, S)
    | some S' => ((bal ci hot warm n S').1 + 1, (bal ci hot warm n S').2)
theorem rst_due {X : Nat → Nat → List Nat} {mk : Nat → Nat} {ci hot warm k : Nat} (h : Rst X mk ci hot warm k) : due X mk ci hot warm k = 0 := by
  rcases h with h | ⟨U, H, h, h2⟩
  · unfold due; rw [h]; rfl
  · unfold due; rw [h, List.getLast?_concat]; exact h2

theorem due_le (X : Nat → Nat → List Nat) (mk : Nat → Nat) (ci hot warm k : Nat) : due X mk ci hot warm k ≤ 3 := by
  unfold due
  split
  · omega
  · unfold bhd spl; (repeat' split) <;> omega
theorem due_ne {X : Nat → Nat → List Nat} {mk : Nat → Nat} {ci hot warm k : Nat} (h : due X mk ci hot warm k ≠ 0) : 0 < (X ci k).length := by
  rcases Nat.eq_zero_or_pos (X ci k).length with h1 | h1
  · have h2 := List.length_eq_zero_iff.1 h1
    unfold due at h; rw [h2] at h; exact absurd rfl h
  · exact h1
theorem mvd_tot (S : Lm) (ci k k2 : Nat) (hk : k < 3) (hk2 : k2 < 3) (h : 0 < (S.X ci k).length) : tot (mvd S ci k k2).X ci = tot S.X ci := by
  have hk' : k = 0 ∨ k = 1 ∨ k = 2 := by omega
  have hk2' : k2 = 0 ∨ k2 = 1 ∨ k2 = 2 := by omega
  rcases hk' with rfl | rfl | rfl <;> rcases hk2' with rfl | rfl | rfl <;> (simp [tot, mvd, upX]; omega)
theorem nxt8_tot {S S' : Lm} {ci hot warm : Nat} (h : nxt8 S ci hot warm = some S') : tot S'.X ci = tot S.X ci := by
  unfold nxt8 at h
  have d0 := due_le S.X S.ma ci hot warm 0
  have d1 := due_le S.X S.ma ci hot warm 1
  have d2 := due_le S.X S.ma ci hot warm 2
  split at h
  · rename_i h1
    obtain rfl := Option.some.inj h
    exact mvd_tot S ci 0 _ (by omega) (by omega) (due_ne h1)
  · split at h
    · rename_i h1
      obtain rfl := Option.some.inj h
      exact mvd_tot S ci 1 _ (by omega) (by omega) (due_ne h1)
    · split at h
      · rename_i h1
        obtain rfl := Option.some.inj h
        exact mvd_tot S ci 2 _ (by omega) (by omega) (due_ne h1)
      · cases h
theorem len_tot (X : Nat → Nat → List Nat) (ci k : Nat) (hk : k < 3) : (X ci k).length ≤ tot X ci := by
  have hk' : k = 0 ∨ k = 1 ∨ k = 2 := by omega
  unfold tot
  rcases hk' with rfl | rfl | rfl <;> omega

structure LE (w : World) (xb sb qb gl gc : Nat) (F : Nat → Prop) (B : Bl) (b c d e f g : Int) (A : Ab) (m : List Int) (T : List Nat) (cls : Nat → Nat) (S : Lm) (hot warm : Nat) : Prop where
  ex : ∃ bs, LQ w xb sb qb gl gc F B b c d e f g A m T bs cls S.X S.ma hot warm

section
variable {w : World} {xb sb qb gl gc : Nat} {F : Nat → Prop} {B : Bl} {b c d e f g : Int} {A : Ab} {m : List Int} {T : List Nat} {cls : Nat → Nat} {S : Lm} {hot warm : Nat}
theorem LE.kept0 {w' : World} (h : LE w xb sb qb gl gc F B b c d e f g A m T cls S hot warm) (hf : w.grownBy w' none) : LE w' xb sb qb gl gc F B b c d e f g A m T cls S hot warm := by
  obtain ⟨bs, h1⟩ := h.ex
  exact ⟨bs, h1.kept0 hf⟩
theorem LE.lens (h : LE w xb sb qb gl gc F B b c d e f g A m T cls S hot warm) {ci : Nat} (ht : tot S.X ci < 1099511627776) (k : Nat) : (S.X ci k).length < 1099511627776 := by
  rcases Nat.lt_or_ge k 3 with h1 | h1
  · exact Nat.lt_of_le_of_lt (len_tot _ _ _ h1) ht
  · obtain ⟨bs, hL⟩ := h.ex
    obtain ⟨p, n, s, L, _, hI⟩ := hL.ql.ex
    rcases hX : S.X ci k with _ | ⟨H, V⟩
    · simp
    · have := hI.k3 ci k H (by rw [hX]; simp)
      omega
theorem step_nxt (h : LE w xb sb qb gl gc F B b c d e f g A m T cls S hot warm) {ci : Nat} (hc : ci < A.n) (hsh : hot ≤ 100) (hsw : warm ≤ 100) (hlen : ∀ k, (S.X ci k).length < 1099511627776) :
    Calls Tryz.prog 60 #[.pointer (some ⟨xb, 0, none⟩), .int .i64 ci, Value.nilFunc] w fun y w' => (y = .returned (.bool false) ∧ nxt8 S ci hot warm = none ∧ w.grownBy w' none) ∨ (y = .returned (.bool true) ∧ ∃ S', nxt8 S ci hot warm = some S' ∧ Kp (fun k => F k ∨ k = gl) w w' ∧ LE w' xb sb qb gl gc F B b c d e f g A m T cls S' hot warm) := by
  obtain ⟨bs, hL⟩ := h.ex
  refine (step_60 hL hc hsh hsw hlen).mono ?_
  rintro y w' (⟨rfl, hf, hr⟩ | ⟨rfl, k, U, H, k2, hk, hr, hX, hb, hk2, hK, hL'⟩)
  · refine .inl ⟨rfl, ?_, hf⟩
    unfold nxt8
    rw [rst_due (hr 0 (by omega)), rst_due (hr 1 (by omega)), rst_due (hr 2 (by omega))]
    rfl
  · refine .inr ⟨rfl, mvd S ci k k2, ?_, hK, ?_⟩
    · have hd : due S.X S.ma ci hot warm k = k2 + 1 := by unfold due; rw [hX, List.getLast?_concat]; exact hb
      have hk3 : k = 0 ∨ k = 1 ∨ k = 2 := by omega
      unfold nxt8
      rcases hk3 with rfl | rfl | rfl
      · rw [hd, if_pos (by omega)]; rfl
      · rw [rst_due (hr 0 (by omega)), hd, if_neg (by decide), if_pos (by omega)]; rfl
      · rw [rst_due (hr 0 (by omega)), rst_due (hr 1 (by omega)), hd, if_neg (by decide), if_neg (by decide), if_pos (by omega)]; rfl
    · refine ⟨upB bs H (S.ma H - S.ma H % 2), ?_⟩
      have e1 : (S.X ci k).dropLast = U := by rw [hX]; simp
      have e2 : (S.X ci k).getLastD 0 = H := by rw [hX]; simp
      unfold mvd
      rw [e1, e2]
      exact hL'
set_option maxRecDepth 100000 in
set_option maxHeartbeats 2000000 in
theorem balance_18 (h : LE w xb sb qb gl gc F B b c d e f g A m T cls S hot warm) {ci : Nat} (hc : ci < A.n) (hsh : hot ≤ 100) (hsw : warm ≤ 100) (ht : tot S.X ci < 1099511627776) {links : Nat} (hl : links < 9223372036854775808) :
    Calls Tryz.prog 18 #[.pointer (some ⟨xb, 0, none⟩), .int .i64 ci, .int .i64 links, Value.nilFunc] w fun y w' => y = .returned (.int .i64 (bal ci hot warm (min links (2 * tot S.X ci)) S).1) ∧ Kp (fun k => F k ∨ k = gl) w w' ∧ LE w' xb sb qb gl gc F B b c d e f g A m T cls (bal ci hot warm (min links (2 * tot S.X ci)) S).2 hot warm := by
  have hal := (show Calls Tryz.prog 59 #[.pointer (some ⟨xb, 0, none⟩), .int .i64 ci] w fun y w' => y = .returned (.int .i64 (tot S.X ci)) ∧ w.grownBy w' none by
    obtain ⟨bs, hL⟩ := h.ex
    exact all_59 hL hc)
  have HS : Hid _ := And.intro h ht
  have htb := ht
  clear h ht
  generalize htt : tot S.X ci = tt at *
  have e1 : IntKind.i64.wrap (2 * (tt : Int)) = 2 * (tt : Int) := by rw [IntKind.wrap_i64]; omega
  obtain ⟨lk, hlk⟩ : ∃ lk, min links (2 * tt) = lk := ⟨_, rfl⟩
  rw [hlk]
  have hlb : lk < 4611686018427387904 := by omega
  have hst := fun (w1 : World) (S1 : Lm) (hE : Hid (Kp (fun k => F k ∨ k = gl) w w1 ∧ LE w1 xb sb qb gl gc F B b c d e f g A m T cls S1 hot warm ∧ tot S1.X ci = tt)) => (step_nxt hE.out.2.1 hc hsh hsw (hE.out.2.1.lens (by rw [hE.out.2.2]; exact htb))).mono (R' := fun y w' => (y = .returned (.bool false) ∧ Hid (nxt8 S1 ci hot warm = none ∧ Kp (fun k => F k ∨ k = gl) w w' ∧ LE w' xb sb qb gl gc F B b c d e f g A m T cls S1 hot warm)) ∨ (y = .returned (.bool true) ∧ ∃ S', Hid (nxt8 S1 ci hot warm = some S') ∧ Hid (Kp (fun k => F k ∨ k = gl) w w' ∧ LE w' xb sb qb gl gc F B b c d e f g A m T cls S' hot warm ∧ tot S'.X ci = tt))) (by
    rintro y w' (⟨rfl, h1, h2⟩ | ⟨rfl, S', h1, h2, h3⟩)
    · exact .inl ⟨rfl, h1, hE.out.1.step h2 (by simp), hE.out.2.1.kept0 h2⟩
    · exact .inr ⟨rfl, S', h1, hE.out.1.trans h2 (fun _ h => h) (fun k hk => .inl hk), h3, by rw [nxt8_tot h1]; exact hE.out.2.2⟩)
  go_enter Tryz.func18, Tryz.ntmps18
  go_wp2_with (go_at_call 59; go_must (refine hal.mono ?_); rintro y w1 ⟨rfl, hf1⟩)
  · rename_i hmn
    have elk : 2 * (tt : Int) = (lk : Int) := by omega
    simp only [elk]
    clear hal e1
    have HW : Hid (Kp (fun k => F k ∨ k = gl) w w1 ∧ LE w1 xb sb qb gl gc F B b c d e f g A m T cls S hot warm ∧ tot S.X ci = tt) := ⟨Kp.of hf1, HS.out.1.kept0 hf1, htt⟩
    clear hf1 HS htt hlk htb
    go_loopw [9] (fun v wr => ∃ (dn : Nat) (S1 : Lm), dn ≤ lk ∧ v = .int .i64 dn ∧ Hid (Kp (fun k => F k ∨ k = gl) w wr ∧ LE wr xb sb qb gl gc F B b c d e f g A m T cls S1 hot warm ∧ tot S1.X ci = tt) ∧ Hid (bal ci hot warm lk S = (dn + (bal ci hot warm (lk - dn) S1).1, (bal ci hot warm (lk - dn) S1).2))) (fun v _ => lk - (intOf v).toNat)
    case atStart => exact ⟨0, S, by omega, rfl, HW, by show _ = _; simp⟩
    case round =>
      obtain ⟨dn, S1, hd, rfl, hE, hB⟩ := hrel
      clear HW
      by_cases hlt : dn < lk
      · have hd1 : decide ((dn : Int) < lk) = true := decide_eq_true (by omega)
        have hlt2 : (dn : Int) < lk := by omega
        have hs1 := hst _ _ hE
        clear hst
        go_wp2_with (go_at_call 60; go_must (with_reducible refine hs1.mono ?_); rintro y w2 (⟨rfl, hE2⟩ | ⟨rfl, S', hn, hE2⟩))
        · go_ret
          have hB1 : bal ci hot warm (lk - dn) S1 = (0, S1) := by
            obtain ⟨r, hr⟩ : ∃ r, lk - dn = r + 1 := ⟨lk - dn - 1, by omega⟩
            rw [hr]; unfold bal; rw [hE2.out.1]
          have hB2 := hB.out
          rw [hB1] at hB2
          rw [hB2]
          exact ⟨rfl, hE2.out.2.1, hE2.out.2.2⟩
        · have hB2 : Hid (bal ci hot warm lk S = (dn + 1 + (bal ci hot warm (lk - (dn + 1)) S').1, (bal ci hot warm (lk - (dn + 1)) S').2)) := by
            show _ = _
            rw [hB.out]
            obtain ⟨r, hr⟩ : ∃ r, lk - dn = r + 1 := ⟨lk - dn - 1, by omega⟩
            rw [hr, show lk - (dn + 1) = r by omega]
            show (dn + (bal ci hot warm (r + 1) S1).1, (bal ci hot warm (r + 1) S1).2) = _
            rw [bal, hn.out]
            simp only []
            rw [show dn + ((bal ci hot warm r S').1 + 1) = dn + 1 + (bal ci hot warm r S').1 by omega]
          exact ⟨⟨dn + 1, S', by omega, by go_num, hE2, hB2⟩, by simp [intOf]; omega⟩
      · obtain rfl : dn = lk := by omega
        have hd1 : decide ((dn : Int) < dn) = false := decide_eq_false (by omega)
        clear hst
        go_wp2
        go_ret
        have hB2 := hB.out
        rw [Nat.sub_self] at hB2
        rw [hB2]
        exact ⟨rfl, hE.out.1, hE.out.2.1⟩
  · rename_i hmn
    have elk : (links : Int) = (lk : Int) := by omega
    simp only [elk]
    clear hal e1
    have HW : Hid (Kp (fun k => F k ∨ k = gl) w w1 ∧ LE w1 xb sb qb gl gc F B b c d e f g A m T cls S hot warm ∧ tot S.X ci = tt) := ⟨Kp.of hf1, HS.out.1.kept0 hf1, htt⟩
    clear hf1 HS htt hlk htb
    go_loopw [9] (fun v wr => ∃ (dn : Nat) (S1 : Lm), dn ≤ lk ∧ v = .int .i64 dn ∧ Hid (Kp (fun k => F k ∨ k = gl) w wr ∧ LE wr xb sb qb gl gc F B b c d e f g A m T cls S1 hot warm ∧ tot S1.X ci = tt) ∧ Hid (bal ci hot warm lk S = (dn + (bal ci hot warm (lk - dn) S1).1, (bal ci hot warm (lk - dn) S1).2))) (fun v _ => lk - (intOf v).toNat)
    case atStart => exact ⟨0, S, by omega, rfl, HW, by show _ = _; simp⟩
    case round =>
      obtain ⟨dn, S1, hd, rfl, hE, hB⟩ := hrel
      clear HW
      by_cases hlt : dn < lk
      · have hd1 : decide ((dn : Int) < lk) = true := decide_eq_true (by omega)
        have hlt2 : (dn : Int) < lk := by omega
        have hs1 := hst _ _ hE
        clear hst
        go_wp2_with (go_at_call 60; go_must (with_reducible refine hs1.mono ?_); rintro y w2 (⟨rfl, hE2⟩ | ⟨rfl, S', hn, hE2⟩))
        · go_ret
          have hB1 : bal ci hot warm (lk - dn) S1 = (0, S1) := by
            obtain ⟨r, hr⟩ : ∃ r, lk - dn = r + 1 := ⟨lk - dn - 1, by omega⟩
            rw [hr]; unfold bal; rw [hE2.out.1]
          have hB2 := hB.out
          rw [hB1] at hB2
          rw [hB2]
          exact ⟨rfl, hE2.out.2.1, hE2.out.2.2⟩
        · have hB2 : Hid (bal ci hot warm lk S = (dn + 1 + (bal ci hot warm (lk - (dn + 1)) S').1, (bal ci hot warm (lk - (dn + 1)) S').2)) := by
            show _ = _
            rw [hB.out]
            obtain ⟨r, hr⟩ : ∃ r, lk - dn = r + 1 := ⟨lk - dn - 1, by omega⟩
            rw [hr, show lk - (dn + 1) = r by omega]
            show (dn + (bal ci hot warm (r + 1) S1).1, (bal ci hot warm (r + 1) S1).2) = _
            rw [bal, hn.out]
            simp only []
            rw [show dn + ((bal ci hot warm r S').1 + 1) = dn + 1 + (bal ci hot warm r S').1 by omega]
          exact ⟨⟨dn + 1, S', by omega, by go_num, hE2, hB2⟩, by simp [intOf]; omega⟩
      · obtain rfl : dn = lk := by omega
        have hd1 : decide ((dn : Int) < dn) = false := decide_eq_false (by omega)
        clear hst
        go_wp2
        go_ret
        have hB2 := hB.out
        rw [Nat.sub_self] at hB2
        rw [hB2]
        exact ⟨rfl, hE.out.1, hE.out.2.1⟩
end
end Go.Proofs.YtohneboimmcocaaGreat
/-
  Lru: New, the document's too.
-/
namespace Go.Proofs.YtohneboimmcocaaGreat
open Go.RowKit
set_option linter.unusedVariables false

/-- Shares that may be. -/
def Shr (x y : Int) : Prop := 1 ≤ x ∧ 1 ≤ y ∧ x + y ≤ 90
set_option maxRecDepth 100000 in
theorem shares_yes {x y : Int} (h : Shr x y) (w : World) : Calls Tryz.prog 70 #[.int .i64 x, .int .i64 y] w fun r w' => r = .returned (.bool true) ∧ w = w' := by
  obtain ⟨h1, h2, h3⟩ := h
  have e1 : IntKind.i64.wrap (90 - x) = 90 - x := by rw [IntKind.wrap_i64]; omega
  have d1 : decide (x ≥ 1) = true := decide_eq_true h1
  have d2 : decide (y ≥ 1) = true := decide_eq_true h2
  have d3 : decide (y ≤ 90 - x) = true := decide_eq_true (by omega)
  go_enter Tryz.func70, Tryz.ntmps70
  go_wp2
  go_ret
  exact ⟨by simp, rfl⟩
set_option maxRecDepth 100000 in
theorem shares_no {x y : Int} (hx : -9223372036854775808 ≤ x ∧ x < 9223372036854775808) (hy : -9223372036854775808 ≤ y ∧ y < 9223372036854775808) (h : ¬ Shr x y) (w : World) : Calls Tryz.prog 70 #[.int .i64 x, .int .i64 y] w fun r w' => r = .returned (.bool false) ∧ w = w' := by
  unfold Shr at h
  by_cases h1 : 1 ≤ x
  · by_cases h2 : 1 ≤ y
    · have e1 : IntKind.i64.wrap (90 - x) = 90 - x := by rw [IntKind.wrap_i64]; omega
      have h3 : ¬ y ≤ 90 - x := by omega
      clear h
      go_enter Tryz.func70, Tryz.ntmps70
      go_wp2
      go_ret
      exact ⟨by simp, rfl⟩
    · clear h
      go_enter Tryz.func70, Tryz.ntmps70
      go_wp2
      go_ret
      exact ⟨by simp, rfl⟩
  · clear h
    go_enter Tryz.func70, Tryz.ntmps70
    go_wp2
    go_ret
    exact ⟨by simp, rfl⟩
set_option maxRecDepth 100000 in
theorem lnew_yes {x y : Int} (h : Shr x y) (sb qb : Nat) (w : World) : Calls Tryz.prog 24 #[.pointer (some ⟨sb, 0, none⟩), .pointer (some ⟨qb, 0, none⟩), .int .i64 x, .int .i64 y] w fun r w' => r = .returned (.tuple #[.pointer (some ⟨w.heap.size, 0, none⟩), .int .i64 0]) ∧ w' = w.alloc (.cells #[.pointer (some ⟨sb, 0, none⟩), .pointer (some ⟨qb, 0, none⟩), .int .i64 x, .int .i64 y] 120) := by
  have hs := fun W => shares_yes h W
  go_enter Tryz.func24, Tryz.ntmps24
  go_wp2_with (go_at_call 70; go_must (refine (hs _).mono ?_); rintro r w' ⟨rfl, rfl⟩)
  go_ret2
  exact ⟨rfl, rfl⟩
set_option maxRecDepth 100000 in
theorem lnew_no {x y : Int} (hx : -9223372036854775808 ≤ x ∧ x < 9223372036854775808) (hy : -9223372036854775808 ≤ y ∧ y < 9223372036854775808) (h : ¬ Shr x y) (sb qb : Nat) (w : World) : Calls Tryz.prog 24 #[.pointer (some ⟨sb, 0, none⟩), .pointer (some ⟨qb, 0, none⟩), .int .i64 x, .int .i64 y] w fun r w' => r = .returned (.tuple #[.pointer none, .int .i64 1]) ∧ w = w' := by
  have hs := fun W => shares_no hx hy h W
  go_enter Tryz.func24, Tryz.ntmps24
  go_wp2_with (go_at_call 70; go_must (refine (hs _).mono ?_); rintro r w' ⟨rfl, rfl⟩)
  go_ret2
  exact ⟨rfl, rfl⟩
set_option maxRecDepth 100000 in
theorem lnew_nil1 (x y : Int) (qb : Nat) (w : World) : Calls Tryz.prog 24 #[.pointer none, .pointer (some ⟨qb, 0, none⟩), .int .i64 x, .int .i64 y] w fun r w' => r = .returned (.tuple #[.pointer none, .int .i64 1]) ∧ w = w' := by
  go_enter Tryz.func24, Tryz.ntmps24
  go_wp2
  go_ret2
  exact ⟨rfl, rfl⟩
set_option maxRecDepth 100000 in
theorem lnew_nil2 (x y : Int) (sb : Nat) (w : World) : Calls Tryz.prog 24 #[.pointer (some ⟨sb, 0, none⟩), .pointer none, .int .i64 x, .int .i64 y] w fun r w' => r = .returned (.tuple #[.pointer none, .int .i64 1]) ∧ w = w' := by
  go_enter Tryz.func24, Tryz.ntmps24
  go_wp2
  go_ret2
  exact ⟨rfl, rfl⟩
set_option maxRecDepth 100000 in
theorem rlnew_yes {x y : Int} (h : Shr x y) (lb : Nat) (w : World) : Calls Tryz.prog 25 #[.pointer (some ⟨lb, 0, none⟩), .int .i64 x, .int .i64 y] w fun r w' => r = .returned (.tuple #[.pointer (some ⟨w.heap.size, 0, none⟩), .int .i64 0]) ∧ w' = w.alloc (.cells #[.pointer (some ⟨lb, 0, none⟩), .int .i64 x, .int .i64 y, .slice none 0 0] 104) := by
  obtain ⟨h1, h2, h3⟩ := h
  have e1 : IntKind.i64.wrap (x + y) = x + y := by rw [IntKind.wrap_i64]; omega
  have d1 : decide (x < 1) = false := decide_eq_false (by omega)
  have d2 : decide (y < 1) = false := decide_eq_false (by omega)
  have d3 : decide (x > 90) = false := decide_eq_false (by omega)
  have d4 : decide (y > 90) = false := decide_eq_false (by omega)
  have d5 : decide (x + y > 90) = false := decide_eq_false (by omega)
  have f1 : ¬ x < 1 := by omega
  have f2 : ¬ y < 1 := by omega
  have f3 : ¬ 90 < x := by omega
  have f4 : ¬ 90 < y := by omega
  have f5 : ¬ 90 < x + y := by omega
  go_enter Tryz.func25, Tryz.ntmps25
  go_wp2
  go_ret2
  exact ⟨rfl, rfl⟩
set_option maxRecDepth 100000 in
theorem rlnew_no {x y : Int} (hx : -9223372036854775808 ≤ x ∧ x < 9223372036854775808) (hy : -9223372036854775808 ≤ y ∧ y < 9223372036854775808) (h : ¬ Shr x y) (lb : Nat) (w : World) : Calls Tryz.prog 25 #[.pointer (some ⟨lb, 0, none⟩), .int .i64 x, .int .i64 y] w fun r w' => r = .returned (.tuple #[.pointer none, .int .i64 1]) ∧ w = w' := by
  unfold Shr at h
  by_cases h1 : x < 1
  · have d1 : decide (x < 1) = true := decide_eq_true h1
    clear h
    go_enter Tryz.func25, Tryz.ntmps25
    go_wp2
    go_ret2
    exact ⟨rfl, rfl⟩
  · by_cases h2 : y < 1
    · have d1 : decide (x < 1) = false := decide_eq_false h1
      have d2 : decide (y < 1) = true := decide_eq_true h2
      clear h
      go_enter Tryz.func25, Tryz.ntmps25
      go_wp2
      go_ret2
      exact ⟨rfl, rfl⟩
    · have d1 : decide (x < 1) = false := decide_eq_false h1
      have d2 : decide (y < 1) = false := decide_eq_false h2
      by_cases h3 : x > 90
      · have d3 : decide (x > 90) = true := decide_eq_true h3
        have f3 : 90 < x := h3
        clear h
        go_enter Tryz.func25, Tryz.ntmps25
        go_wp2
        go_ret2
        exact ⟨rfl, rfl⟩
      · have d3 : decide (x > 90) = false := decide_eq_false h3
        have f3 : ¬ 90 < x := h3
        by_cases h4 : y > 90
        · have d4 : decide (y > 90) = true := decide_eq_true h4
          have f4 : 90 < y := h4
          clear h
          go_enter Tryz.func25, Tryz.ntmps25
          go_wp2
          go_ret2
          exact ⟨rfl, rfl⟩
        · have d4 : decide (y > 90) = false := decide_eq_false h4
          have f4 : ¬ 90 < y := h4
          have f5 : 90 < x + y := by omega
          have d5 : decide (x + y > 90) = true := decide_eq_true f5
          have e1 : IntKind.i64.wrap (x + y) = x + y := by rw [IntKind.wrap_i64]; omega
          clear h
          go_enter Tryz.func25, Tryz.ntmps25
          go_wp2
          go_ret2
          exact ⟨rfl, rfl⟩
end Go.Proofs.YtohneboimmcocaaGreat
