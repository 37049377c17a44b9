import Derived.Test.YtohneboimmcocaaGreatOe
import Derived.Test.YtohneboimmcocaaGreatPd
/-
  Lru: moves that are told ahead.
-/
namespace Go.Proofs.YtohneboimmcocaaGreat
open Go.RowKit
set_option linter.unusedVariables false

theorem equalIn_func (d : Nat) (t : TypeId) {ps rs : Array TypeId} {v : Bool} (h : Tryz.prog.underlying t = some (.func ps rs v)) (fn : Fn) (bs cs : Array Value) (w : World) : (Op.equalIn (d + 1) t (.func fn bs cs) .nilFunc).run Tryz.prog w = .ok false w := by
  simp [Op.equalIn, run_underlying h]
theorem equal_func (t : TypeId) {ps rs : Array TypeId} {v : Bool} (h : Tryz.prog.underlying t = some (.func ps rs v)) (fn : Fn) (bs cs : Array Value) (w : World) : (Op.equal t (.func fn bs cs) .nilFunc).run Tryz.prog w = .ok false w := equalIn_func 9999 t h fn bs cs w
theorem neq_func (t : TypeId) {ps rs : Array TypeId} {v : Bool} (h : Tryz.prog.underlying t = some (.func ps rs v)) (fn : Fn) (bs cs : Array Value) (w : World) : (binOp .neq t (.func fn bs cs) .nilFunc).run Tryz.prog w = .ok (.bool true) w := by
  simp only [binOp]
  simp [equal_func t h fn bs cs w]

/-- What is told ahead of a move, and what is kept of it. -/
structure LfOk (J : World → List Nat → Prop) (PJ : Nat → Prop) (t1 t2 t3 t4 ci : Nat) (xb sb qb gl gc : Nat) (F : Nat → Prop) (B : Bl) (b c d e f g : Int) (A : Ab) (m : List Int) (T : List Nat) (cls : Nat → Nat) (hot warm : Nat) : Prop where
  kept : ∀ W W' xs, J W xs → Kp (fun k => F k ∨ k = gl) W W' → J W' xs
  tell : ∀ W xs bs X mk k U (H : Nat), LQ W xb sb qb gl gc F B b c d e f g A m T bs cls X mk hot warm → J W xs → xs.length ≤ 5000 → k < 3 → X ci k = U ++ [H] → Calls Tryz.prog 19 #[.int .u64 H, .pointer (some ⟨t1, 0, none⟩), .pointer (some ⟨t2, 0, none⟩), .pointer (some ⟨t3, 0, none⟩), .pointer (some ⟨t4, 0, none⟩)] W fun y w' => y = .returned (.tuple #[]) ∧ Kp PJ W w' ∧ LQ w' xb sb qb gl gc F B b c d e f g A m T bs cls X mk hot warm ∧ J w' (xs ++ [H])

section
variable {w : World} {xb sb qb gl gc : Nat} {F : Nat → Prop} {B : Bl} {b c d e f g : Int} {A : Ab} {m : List Int} {T : List Nat} {bs : Nat → It} {cls : Nat → Nat} {X : Nat → Nat → List Nat} {mk : Nat → Nat} {hot warm : Nat} {J : World → List Nat → Prop} {PJ : Nat → Prop} {t1 t2 t3 t4 ci : Nat} {xs : List Nat}
set_option maxRecDepth 100000 in
theorem move_108L (h : LQ w xb sb qb gl gc F B b c d e f g A m T bs cls X mk hot warm) (hJ : J w xs) (hx : xs.length ≤ 5000) (hO : LfOk J PJ t1 t2 t3 t4 ci xb sb qb gl gc F B b c d e f g A m T cls hot warm) {H k k2 : Nat} {U : List Nat} (hcl : cls H = ci) (hk3 : k < 3) (hX : X ci k = U ++ [H]) (hk2 : k2 < 3) (hl : (X ci k2).length < 1099511627776) :
    Calls Tryz.prog 108 #[.pointer (some ⟨xb, 0, none⟩), .int .u64 H, .int .i64 ((k2 : Int) + 1), .func (.func 19) #[] #[.pointer (some ⟨t1, 0, none⟩), .pointer (some ⟨t2, 0, none⟩), .pointer (some ⟨t3, 0, none⟩), .pointer (some ⟨t4, 0, none⟩)]] w fun y w' => y = .returned (.tuple #[]) ∧ Kp (fun k => (F k ∨ k = gl) ∨ PJ k) w w' ∧ LQ w' xb sb qb gl gc F B b c d e f g A m T (upB bs H (mk H - mk H % 2)) cls (upX (upX X ci k U) ci k2 (H :: (upX X ci k U) ci k2)) (upf mk H (mk H - mk H % 2)) hot warm ∧ J w' (xs ++ [H]) := by
  have hm : H ∈ X (cls H) k := by rw [hcl, hX]; simp
  have hT : H ∈ T := by obtain ⟨p, n, s, L, _, hI⟩ := h.ql.ex; exact (hI.sub _ _ H hm).1
  have htl := (hO.tell w xs bs X mk k U H h hJ hx hk3 hX).mono (R' := fun y w' => y = .returned (.tuple #[]) ∧ w'.cell? ⟨xb, 1, none⟩ = some (.pointer (some ⟨qb, 0, none⟩)) ∧ Hid (Kp PJ w w' ∧ LQ w' xb sb qb gl gc F B b c d e f g A m T bs cls X mk hot warm ∧ J w' (xs ++ [H]))) (by
    rintro y w' ⟨rfl, hK, hL, hJ'⟩
    exact ⟨rfl, hL.bx.cell 1, hK, hL, hJ'⟩)
  have hsh := fun W (hE : Hid (Kp PJ w W ∧ LQ W xb sb qb gl gc F B b c d e f g A m T bs cls X mk hot warm ∧ J W (xs ++ [H]))) => (q_shift hE.out.2.1.ql (H := H) (k := k) (U := U) (V := []) (by rw [hcl]; exact hX) hk2 (by rw [hcl]; exact hl)).mono (R' := fun y w' => y = .returned (.int .i64 0) ∧ Hid (Kp (fun k => (F k ∨ k = gl) ∨ PJ k) w w' ∧ J w' (xs ++ [H]) ∧ LQ w' xb sb qb gl gc F B b c d e f g A m T bs cls (upX (upX X ci k U) ci k2 (H :: (upX X ci k U) ci k2)) mk hot warm)) (by
    rintro y w' ⟨rfl, hK, hQ⟩
    rw [hcl, List.append_nil] at hQ
    exact ⟨rfl, (hE.out.1.mono (fun k hk => .inl (.inr hk))).trans hK (fun _ h => h) (fun k hk => .inl (.inl hk)), hO.kept _ _ _ hE.out.2.2 hK, hE.out.2.1.step hK hQ⟩)
  have hcm := fun w1 (hE : Hid (Kp (fun k => (F k ∨ k = gl) ∨ PJ k) w w1 ∧ J w1 (xs ++ [H]) ∧ LQ w1 xb sb qb gl gc F B b c d e f g A m T bs cls (upX (upX X ci k U) ci k2 (H :: (upX X ci k U) ci k2)) mk hot warm)) => (calm_77 hE.out.2.2 hT).mono (R' := fun y w' => y = .returned (.tuple #[]) ∧ Hid (Kp (fun k => (F k ∨ k = gl) ∨ PJ k) w w' ∧ LQ w' xb sb qb gl gc F B b c d e f g A m T (upB bs H (mk H - mk H % 2)) cls (upX (upX X ci k U) ci k2 (H :: (upX X ci k U) ci k2)) (upf mk H (mk H - mk H % 2)) hot warm ∧ J w' (xs ++ [H]))) (by
    rintro y w' ⟨rfl, hK, hL⟩
    exact ⟨rfl, hE.out.1.trans hK (fun _ h => h) (fun k hk => .inl (.inl hk)), hL, hO.kept _ _ _ hE.out.2.1 hK⟩)
  clear h hX hm hl hO hJ
  generalize upX (upX X ci k U) ci k2 (H :: (upX X ci k U) ci k2) = X' at *
  have hnf := neq_func 51 Tryz.underlying51 (.func 19) #[]
  go_enter Tryz.func108, Tryz.ntmps108
  go_wp2_with (first | (go_at_call 19; go_must (with_reducible refine htl.mono ?_); rintro y w0 ⟨rfl, c1, hE0⟩) | (go_at_call 56; go_must (with_reducible refine (hsh _ hE0).mono ?_); rintro y w1 ⟨rfl, hE1⟩) | (go_at_call 77; go_must (with_reducible refine (hcm _ hE1).mono ?_); rintro y w2 ⟨rfl, hE2⟩) | fail)
  go_end0
  exact ⟨rfl, hE2.out⟩
set_option maxRecDepth 100000 in
set_option maxHeartbeats 4000000 in
theorem step_60L (h : LQ w xb sb qb gl gc F B b c d e f g A m T bs cls X mk hot warm) (hJ : J w xs) (hx : xs.length ≤ 5000) (hO : LfOk J PJ t1 t2 t3 t4 ci xb sb qb gl gc F B b c d e f g A m T cls hot warm) (hc : ci < A.n) (hsh : hot ≤ 100) (hsw : warm ≤ 100) (hlen : ∀ k, (X ci k).length < 1099511627776) :
    Calls Tryz.prog 60 #[.pointer (some ⟨xb, 0, none⟩), .int .i64 ci, .func (.func 19) #[] #[.pointer (some ⟨t1, 0, none⟩), .pointer (some ⟨t2, 0, none⟩), .pointer (some ⟨t3, 0, none⟩), .pointer (some ⟨t4, 0, none⟩)]] w fun y w' => (y = .returned (.bool false) ∧ w.grownBy w' none ∧ ∀ k, k < 3 → Rst X mk ci hot warm k) ∨ (y = .returned (.bool true) ∧ ∃ k U H k2, k < 3 ∧ (∀ j, j < k → Rst X mk ci hot warm j) ∧ X ci k = U ++ [H] ∧ bhd X ci hot warm k (decide (mk H % 2 = 1)) = k2 + 1 ∧ k2 < 3 ∧ Kp (fun k => (F k ∨ k = gl) ∨ PJ k) w w' ∧ LQ w' xb sb qb gl gc F B b c d e f g A m T (upB bs H (mk H - mk H % 2)) cls (upX (upX X ci k U) ci k2 (H :: (upX X ci k U) ci k2)) (upf mk H (mk H - mk H % 2)) hot warm ∧ J w' (xs ++ [H])) := by
  have htl0 := fun W (hf : w.grownBy W none) v hv => q_tailL (h.kept0 hf).ql hc (k := 0) (by omega) v hv
  have htl1 := fun W (hf : w.grownBy W none) v hv => q_tailL (h.kept0 hf).ql hc (k := 1) (by omega) v hv
  have htl2 := fun W (hf : w.grownBy W none) v hv => q_tailL (h.kept0 hf).ql hc (k := 2) (by omega) v hv
  simp only [show ((0 : Nat) : Int) + 1 = 1 from rfl, show ((1 : Nat) : Int) + 1 = 2 from rfl, show ((2 : Nat) : Int) + 1 = 3 from rfl] at htl0 htl1 htl2
  have h107 := fun W => follows_107 W
  have HL : Hid _ := h
  have HJ : Hid _ := And.intro hJ hO
  clear h hJ hO
  unfold flw at h107
  go_enter Tryz.func60, Tryz.ntmps60
  go_wp2_with (go_at_call 107; go_must (refine (h107 _).mono ?_); rintro y w1 ⟨rfl, hf1⟩)
  go_loopw [13] (fun v wr => ∃ k : Nat, k ≤ 3 ∧ v = .int .i64 k ∧ w.grownBy wr none ∧ ∀ j, j < k → Rst X mk ci hot warm j) (fun v _ => 3 - (intOf v).toNat)
  case atStart => exact ⟨0, by omega, rfl, hf1, fun j hj => by omega⟩
  case round =>
    obtain ⟨k, hk, rfl, hf, hr⟩ := hrel
    by_cases hk3 : k = 3
    · subst hk3
      clear htl0 htl1 htl2 h107 hf1
      have HR : Hid _ := And.intro hf hr
      clear hf hr
      go_wp2
      go_ret
      exact .inl ⟨rfl, HR.out.1, HR.out.2⟩
    · have hkk : k = 0 ∨ k = 1 ∨ k = 2 := by omega
      rcases hkk with rfl | rfl | rfl
      · have hix := ix0
        have c1 : wr.cell? ⟨xb, 1, none⟩ = some (.pointer (some ⟨qb, 0, none⟩)) := (HL.out.kept0 hf).bx.cell 1
        obtain ⟨wa, hwa⟩ : ∃ wa, wr.alloc (.cells #[.int .i64 1, .func (.func 150) #[] #[]] 163) = wa := ⟨_, rfl⟩
        have hga : wr.grownBy wa none := hwa ▸ World.grownBy_alloc wr _ none
        have hfa := gb_trans hf hga
        have hba : Box wa 163 wr.heap.size #[.int .i64 1, .func (.func 150) #[] #[]] := hwa ▸ Box.new wr 163 _
        have hdr : wa.grownBy wa.drew none := gb_drew (gb_refl _ _)
        have hfd := gb_trans hfa hdr
        have hC : ∀ W, wa.grownBy W none → W.cell? ⟨xb, 1, none⟩ = some (.pointer (some ⟨qb, 0, none⟩)) ∧ W.cell? ⟨wr.heap.size, 0, none⟩ = some (.int .i64 1) := fun W h => ⟨(HL.out.kept0 (gb_trans hfa h)).bx.cell 1, (hba.kept h (by simp)).cell 0⟩
        have hC1 : ∀ W, wa.grownBy W none → W.cell? ⟨wr.heap.size, 1, none⟩ = some (.func (.func 150) #[] #[]) := fun W h => (hba.kept h (by simp)).cell 1
        have hD := hC _ hdr
        clear c1 hga hba
        rcases List.eq_nil_or_concat (X ci 0) with hX | ⟨U, H, hX⟩
        · have ht := fun W (hf : w.grownBy W none) => (htl0 W hf 0 (by rw [hX]; rfl))
          simp only [show ((0 : Nat) : Int) = 0 from rfl] at ht
          have HR : Hid (∀ j, j < 1 → Rst X mk ci hot warm j) := fun j hj => by
            rcases Nat.lt_or_ge j 0 with h1 | h1
            · exact hr j h1
            · obtain rfl : j = 0 := by omega
              exact .inl hX
          clear htl0 htl1 htl2 h107 hf1 hr hC1 hlen
          go_wp2
          clear hwa hix
          go_region_held3 (fun w' => w'.cell? ⟨xb, 1, none⟩ = some (.pointer (some ⟨qb, 0, none⟩)) ∧ w'.cell? ⟨wr.heap.size, 0, none⟩ = some (.int .i64 1)) ((first | with_reducible exact hE2 | with_reducible exact hD | go_keep)) ((go_at_call 20; with_reducible refine (ht _ hfd).mono ?_; rintro y w2 ⟨rfl, hg2⟩; (have hE2 := hC _ (gb_trans hdr hg2))))
          have hF2 := gb_trans hfd hg2
          clear ht hC hD hE2
          go_wp2
          exact ⟨⟨1, by omega, by go_num, hF2, HR.out⟩, by simp [intOf]⟩
        · rw [List.concat_eq_append] at hX
          obtain ⟨hT, hcl, hH0⟩ := HL.out.mem (show H ∈ X ci 0 by rw [hX]; simp)
          have ht := fun W (hf : w.grownBy W none) => (htl0 W hf H (by rw [hX]; simp))
          simp only [show decide (¬ H = 0) = true from decide_eq_true hH0] at ht
          have hac := fun W (hf : w.grownBy W none) => active_81 (HL.out.kept0 hf) hT
          obtain ⟨act, hact⟩ : ∃ act, decide (mk H % 2 = 1) = act := ⟨_, rfl⟩
          simp only [hact] at hac
          have hbh := fun W (hf : w.grownBy W none) => (show Calls Tryz.prog 150 #[.pointer (some ⟨xb, 0, none⟩), .int .i64 ci, .bool act] W fun y w' => y = .returned (.int .i64 (bhd X ci hot warm 0 act : Nat)) ∧ W.grownBy w' none by
            rw [show bhd X ci hot warm 0 act = spl X ci 0 hot act from if_pos rfl]
            exact behind_150 (HL.out.kept0 hf) hc hsh _)
          rcases Nat.eq_zero_or_pos (bhd X ci hot warm 0 act) with hz | hz
          · rw [hz] at hbh
            simp only [show ((0 : Nat) : Int) = 0 from rfl] at hbh
            have HR : Hid (∀ j, j < 1 → Rst X mk ci hot warm j) := fun j hj => by
              rcases Nat.lt_or_ge j 0 with h1 | h1
              · exact hr j h1
              · obtain rfl : j = 0 := by omega
                exact .inr ⟨U, H, hX, by rw [hact, hz]⟩
            clear htl0 htl1 htl2 h107 hf1 hr hlen hX hact hz hT hcl
            go_wp2
            clear hwa hix
            go_region_held3 (fun w' => w'.cell? ⟨xb, 1, none⟩ = some (.pointer (some ⟨qb, 0, none⟩)) ∧ w'.cell? ⟨wr.heap.size, 0, none⟩ = some (.int .i64 1)) ((first | with_reducible exact hE2 | with_reducible exact hD | go_keep)) ((go_at_call 20; with_reducible refine (ht _ hfd).mono ?_; rintro y w2 ⟨rfl, hg2⟩; (have hE2 := hC _ (gb_trans hdr hg2))))
            have hF2 := gb_trans hfd hg2
            have hd2 : w2.grownBy w2.drew none := gb_drew (gb_refl _ _)
            have hF3 := gb_trans hF2 hd2
            have c5 := hC1 _ (gb_trans (gb_trans hdr hg2) hd2)
            have hG2 := gb_trans (gb_trans hdr hg2) hd2
            clear ht hC hD hE2
            go_wp2
            go_region_held3 (fun w' => w'.cell? ⟨wr.heap.size, 1, none⟩ = some (.func (.func 150) #[] #[])) ((first | with_reducible exact c7 | with_reducible exact c6 | with_reducible exact c5 | go_keep)) ((first | (go_at_call 81; with_reducible refine (hac _ hF3).mono ?_; rintro y w4 ⟨rfl, hg4⟩; (have hF4 := gb_trans hF3 hg4); (have hG4 := gb_trans hG2 hg4); (have c6 := hC1 _ hG4)) | (go_at_call 150; with_reducible refine (hbh _ hF4).mono ?_; rintro y w5 ⟨rfl, hg5⟩; (have c7 := hC1 _ (gb_trans hG4 hg5)))))
            have hF5 := gb_trans hF4 hg5
            clear hac hbh hC1 c5 c6 c7
            go_wp2
            exact ⟨⟨1, by omega, by go_num, hF5, HR.out⟩, by simp [intOf]⟩
          · obtain ⟨k2, hk2⟩ : ∃ k2, bhd X ci hot warm 0 act = k2 + 1 := ⟨bhd X ci hot warm 0 act - 1, by omega⟩
            have hk23 : k2 < 3 := by
              have : bhd X ci hot warm 0 act ≤ 3 := by unfold bhd spl; (repeat' split) <;> omega
              omega
            rw [hk2] at hbh
            simp only [show ((k2 + 1 : Nat) : Int) = (k2 : Int) + 1 from rfl] at hbh
            have hmv := fun W (hf : w.grownBy W none) => (move_108L (HL.out.kept0 hf) (HJ.out.2.kept _ _ _ HJ.out.1 (Kp.of hf)) hx HJ.out.2 (H := H) (k := 0) (k2 := k2) (U := U) hcl (by omega) hX hk23 (hlen k2)).mono (R' := fun y w' => y = .returned (.tuple #[]) ∧ Hid (∃ k U H k2, k < 3 ∧ (∀ j, j < k → Rst X mk ci hot warm j) ∧ X ci k = U ++ [H] ∧ bhd X ci hot warm k (decide (mk H % 2 = 1)) = k2 + 1 ∧ k2 < 3 ∧ Kp (fun k => (F k ∨ k = gl) ∨ PJ k) w w' ∧ LQ w' xb sb qb gl gc F B b c d e f g A m T (upB bs H (mk H - mk H % 2)) cls (upX (upX X ci k U) ci k2 (H :: (upX X ci k U) ci k2)) (upf mk H (mk H - mk H % 2)) hot warm ∧ J w' (xs ++ [H]))) (by
              rintro y w' ⟨rfl, hK, hL, hJ'⟩
              exact ⟨rfl, 0, U, H, k2, by omega, hr, hX, by rw [hact, hk2], hk23, (Kp.of hf).trans hK (fun _ h => h) (fun k hk => .inl hk), hL, hJ'⟩)
            have hne : ¬ (k2 : Int) + 1 = 0 := by omega
            clear htl0 htl1 htl2 h107 hf1 hr hlen hX hact hz hT hcl HL HJ hk2 hk23
            go_wp2
            clear hwa hix
            go_region_held3 (fun w' => w'.cell? ⟨xb, 1, none⟩ = some (.pointer (some ⟨qb, 0, none⟩)) ∧ w'.cell? ⟨wr.heap.size, 0, none⟩ = some (.int .i64 1)) ((first | with_reducible exact hE2 | with_reducible exact hD | go_keep)) ((go_at_call 20; with_reducible refine (ht _ hfd).mono ?_; rintro y w2 ⟨rfl, hg2⟩; (have hE2 := hC _ (gb_trans hdr hg2))))
            have hF2 := gb_trans hfd hg2
            have hd2 : w2.grownBy w2.drew none := gb_drew (gb_refl _ _)
            have hF3 := gb_trans hF2 hd2
            have c5 := hC1 _ (gb_trans (gb_trans hdr hg2) hd2)
            have hG2 := gb_trans (gb_trans hdr hg2) hd2
            clear ht hC hD hE2
            go_wp2
            go_region_held3 (fun w' => w'.cell? ⟨wr.heap.size, 1, none⟩ = some (.func (.func 150) #[] #[])) ((first | with_reducible exact c7 | with_reducible exact c6 | with_reducible exact c5 | go_keep)) ((first | (go_at_call 81; with_reducible refine (hac _ hF3).mono ?_; rintro y w4 ⟨rfl, hg4⟩; (have hF4 := gb_trans hF3 hg4); (have hG4 := gb_trans hG2 hg4); (have c6 := hC1 _ hG4)) | (go_at_call 150; with_reducible refine (hbh _ hF4).mono ?_; rintro y w5 ⟨rfl, hg5⟩; (have c7 := hC1 _ (gb_trans hG4 hg5)))))
            have hF5 := gb_trans hF4 hg5
            clear hac hbh hC1 c5 c6 c7
            go_wp2_with (go_at_call 108; go_must (with_reducible refine (hmv _ hF5).mono ?_); rintro y w6 ⟨rfl, hE6⟩)
            go_ret
            exact .inr ⟨rfl, hE6.out⟩
      · have hix := ix1
        have c1 : wr.cell? ⟨xb, 1, none⟩ = some (.pointer (some ⟨qb, 0, none⟩)) := (HL.out.kept0 hf).bx.cell 1
        obtain ⟨wa, hwa⟩ : ∃ wa, wr.alloc (.cells #[.int .i64 2, .func (.func 151) #[] #[]] 163) = wa := ⟨_, rfl⟩
        have hga : wr.grownBy wa none := hwa ▸ World.grownBy_alloc wr _ none
        have hfa := gb_trans hf hga
        have hba : Box wa 163 wr.heap.size #[.int .i64 2, .func (.func 151) #[] #[]] := hwa ▸ Box.new wr 163 _
        have hdr : wa.grownBy wa.drew none := gb_drew (gb_refl _ _)
        have hfd := gb_trans hfa hdr
        have hC : ∀ W, wa.grownBy W none → W.cell? ⟨xb, 1, none⟩ = some (.pointer (some ⟨qb, 0, none⟩)) ∧ W.cell? ⟨wr.heap.size, 0, none⟩ = some (.int .i64 2) := fun W h => ⟨(HL.out.kept0 (gb_trans hfa h)).bx.cell 1, (hba.kept h (by simp)).cell 0⟩
        have hC1 : ∀ W, wa.grownBy W none → W.cell? ⟨wr.heap.size, 1, none⟩ = some (.func (.func 151) #[] #[]) := fun W h => (hba.kept h (by simp)).cell 1
        have hD := hC _ hdr
        clear c1 hga hba
        rcases List.eq_nil_or_concat (X ci 1) with hX | ⟨U, H, hX⟩
        · have ht := fun W (hf : w.grownBy W none) => (htl1 W hf 0 (by rw [hX]; rfl))
          simp only [show ((0 : Nat) : Int) = 0 from rfl] at ht
          have HR : Hid (∀ j, j < 2 → Rst X mk ci hot warm j) := fun j hj => by
            rcases Nat.lt_or_ge j 1 with h1 | h1
            · exact hr j h1
            · obtain rfl : j = 1 := by omega
              exact .inl hX
          clear htl0 htl1 htl2 h107 hf1 hr hC1 hlen
          go_wp2
          clear hwa hix
          go_region_held3 (fun w' => w'.cell? ⟨xb, 1, none⟩ = some (.pointer (some ⟨qb, 0, none⟩)) ∧ w'.cell? ⟨wr.heap.size, 0, none⟩ = some (.int .i64 2)) ((first | with_reducible exact hE2 | with_reducible exact hD | go_keep)) ((go_at_call 20; with_reducible refine (ht _ hfd).mono ?_; rintro y w2 ⟨rfl, hg2⟩; (have hE2 := hC _ (gb_trans hdr hg2))))
          have hF2 := gb_trans hfd hg2
          clear ht hC hD hE2
          go_wp2
          exact ⟨⟨2, by omega, by go_num, hF2, HR.out⟩, by simp [intOf]⟩
        · rw [List.concat_eq_append] at hX
          obtain ⟨hT, hcl, hH0⟩ := HL.out.mem (show H ∈ X ci 1 by rw [hX]; simp)
          have ht := fun W (hf : w.grownBy W none) => (htl1 W hf H (by rw [hX]; simp))
          simp only [show decide (¬ H = 0) = true from decide_eq_true hH0] at ht
          have hac := fun W (hf : w.grownBy W none) => active_81 (HL.out.kept0 hf) hT
          obtain ⟨act, hact⟩ : ∃ act, decide (mk H % 2 = 1) = act := ⟨_, rfl⟩
          simp only [hact] at hac
          have hbh := fun W (hf : w.grownBy W none) => (show Calls Tryz.prog 151 #[.pointer (some ⟨xb, 0, none⟩), .int .i64 ci, .bool act] W fun y w' => y = .returned (.int .i64 (bhd X ci hot warm 1 act : Nat)) ∧ W.grownBy w' none by
            rw [show bhd X ci hot warm 1 act = spl X ci 1 warm act from (if_neg (by decide)).trans (if_pos rfl)]
            exact behind_151 (HL.out.kept0 hf) hc hsw _)
          rcases Nat.eq_zero_or_pos (bhd X ci hot warm 1 act) with hz | hz
          · rw [hz] at hbh
            simp only [show ((0 : Nat) : Int) = 0 from rfl] at hbh
            have HR : Hid (∀ j, j < 2 → Rst X mk ci hot warm j) := fun j hj => by
              rcases Nat.lt_or_ge j 1 with h1 | h1
              · exact hr j h1
              · obtain rfl : j = 1 := by omega
                exact .inr ⟨U, H, hX, by rw [hact, hz]⟩
            clear htl0 htl1 htl2 h107 hf1 hr hlen hX hact hz hT hcl
            go_wp2
            clear hwa hix
            go_region_held3 (fun w' => w'.cell? ⟨xb, 1, none⟩ = some (.pointer (some ⟨qb, 0, none⟩)) ∧ w'.cell? ⟨wr.heap.size, 0, none⟩ = some (.int .i64 2)) ((first | with_reducible exact hE2 | with_reducible exact hD | go_keep)) ((go_at_call 20; with_reducible refine (ht _ hfd).mono ?_; rintro y w2 ⟨rfl, hg2⟩; (have hE2 := hC _ (gb_trans hdr hg2))))
            have hF2 := gb_trans hfd hg2
            have hd2 : w2.grownBy w2.drew none := gb_drew (gb_refl _ _)
            have hF3 := gb_trans hF2 hd2
            have c5 := hC1 _ (gb_trans (gb_trans hdr hg2) hd2)
            have hG2 := gb_trans (gb_trans hdr hg2) hd2
            clear ht hC hD hE2
            go_wp2
            go_region_held3 (fun w' => w'.cell? ⟨wr.heap.size, 1, none⟩ = some (.func (.func 151) #[] #[])) ((first | with_reducible exact c7 | with_reducible exact c6 | with_reducible exact c5 | go_keep)) ((first | (go_at_call 81; with_reducible refine (hac _ hF3).mono ?_; rintro y w4 ⟨rfl, hg4⟩; (have hF4 := gb_trans hF3 hg4); (have hG4 := gb_trans hG2 hg4); (have c6 := hC1 _ hG4)) | (go_at_call 151; with_reducible refine (hbh _ hF4).mono ?_; rintro y w5 ⟨rfl, hg5⟩; (have c7 := hC1 _ (gb_trans hG4 hg5)))))
            have hF5 := gb_trans hF4 hg5
            clear hac hbh hC1 c5 c6 c7
            go_wp2
            exact ⟨⟨2, by omega, by go_num, hF5, HR.out⟩, by simp [intOf]⟩
          · obtain ⟨k2, hk2⟩ : ∃ k2, bhd X ci hot warm 1 act = k2 + 1 := ⟨bhd X ci hot warm 1 act - 1, by omega⟩
            have hk23 : k2 < 3 := by
              have : bhd X ci hot warm 1 act ≤ 3 := by unfold bhd spl; (repeat' split) <;> omega
              omega
            rw [hk2] at hbh
            simp only [show ((k2 + 1 : Nat) : Int) = (k2 : Int) + 1 from rfl] at hbh
            have hmv := fun W (hf : w.grownBy W none) => (move_108L (HL.out.kept0 hf) (HJ.out.2.kept _ _ _ HJ.out.1 (Kp.of hf)) hx HJ.out.2 (H := H) (k := 1) (k2 := k2) (U := U) hcl (by omega) hX hk23 (hlen k2)).mono (R' := fun y w' => y = .returned (.tuple #[]) ∧ Hid (∃ k U H k2, k < 3 ∧ (∀ j, j < k → Rst X mk ci hot warm j) ∧ X ci k = U ++ [H] ∧ bhd X ci hot warm k (decide (mk H % 2 = 1)) = k2 + 1 ∧ k2 < 3 ∧ Kp (fun k => (F k ∨ k = gl) ∨ PJ k) w w' ∧ LQ w' xb sb qb gl gc F B b c d e f g A m T (upB bs H (mk H - mk H % 2)) cls (upX (upX X ci k U) ci k2 (H :: (upX X ci k U) ci k2)) (upf mk H (mk H - mk H % 2)) hot warm ∧ J w' (xs ++ [H]))) (by
              rintro y w' ⟨rfl, hK, hL, hJ'⟩
              exact ⟨rfl, 1, U, H, k2, by omega, hr, hX, by rw [hact, hk2], hk23, (Kp.of hf).trans hK (fun _ h => h) (fun k hk => .inl hk), hL, hJ'⟩)
            have hne : ¬ (k2 : Int) + 1 = 0 := by omega
            clear htl0 htl1 htl2 h107 hf1 hr hlen hX hact hz hT hcl HL HJ hk2 hk23
            go_wp2
            clear hwa hix
            go_region_held3 (fun w' => w'.cell? ⟨xb, 1, none⟩ = some (.pointer (some ⟨qb, 0, none⟩)) ∧ w'.cell? ⟨wr.heap.size, 0, none⟩ = some (.int .i64 2)) ((first | with_reducible exact hE2 | with_reducible exact hD | go_keep)) ((go_at_call 20; with_reducible refine (ht _ hfd).mono ?_; rintro y w2 ⟨rfl, hg2⟩; (have hE2 := hC _ (gb_trans hdr hg2))))
            have hF2 := gb_trans hfd hg2
            have hd2 : w2.grownBy w2.drew none := gb_drew (gb_refl _ _)
            have hF3 := gb_trans hF2 hd2
            have c5 := hC1 _ (gb_trans (gb_trans hdr hg2) hd2)
            have hG2 := gb_trans (gb_trans hdr hg2) hd2
            clear ht hC hD hE2
            go_wp2
            go_region_held3 (fun w' => w'.cell? ⟨wr.heap.size, 1, none⟩ = some (.func (.func 151) #[] #[])) ((first | with_reducible exact c7 | with_reducible exact c6 | with_reducible exact c5 | go_keep)) ((first | (go_at_call 81; with_reducible refine (hac _ hF3).mono ?_; rintro y w4 ⟨rfl, hg4⟩; (have hF4 := gb_trans hF3 hg4); (have hG4 := gb_trans hG2 hg4); (have c6 := hC1 _ hG4)) | (go_at_call 151; with_reducible refine (hbh _ hF4).mono ?_; rintro y w5 ⟨rfl, hg5⟩; (have c7 := hC1 _ (gb_trans hG4 hg5)))))
            have hF5 := gb_trans hF4 hg5
            clear hac hbh hC1 c5 c6 c7
            go_wp2_with (go_at_call 108; go_must (with_reducible refine (hmv _ hF5).mono ?_); rintro y w6 ⟨rfl, hE6⟩)
            go_ret
            exact .inr ⟨rfl, hE6.out⟩
      · have hix := ix2
        have c1 : wr.cell? ⟨xb, 1, none⟩ = some (.pointer (some ⟨qb, 0, none⟩)) := (HL.out.kept0 hf).bx.cell 1
        obtain ⟨wa, hwa⟩ : ∃ wa, wr.alloc (.cells #[.int .i64 3, .func (.func 152) #[] #[]] 163) = wa := ⟨_, rfl⟩
        have hga : wr.grownBy wa none := hwa ▸ World.grownBy_alloc wr _ none
        have hfa := gb_trans hf hga
        have hba : Box wa 163 wr.heap.size #[.int .i64 3, .func (.func 152) #[] #[]] := hwa ▸ Box.new wr 163 _
        have hdr : wa.grownBy wa.drew none := gb_drew (gb_refl _ _)
        have hfd := gb_trans hfa hdr
        have hC : ∀ W, wa.grownBy W none → W.cell? ⟨xb, 1, none⟩ = some (.pointer (some ⟨qb, 0, none⟩)) ∧ W.cell? ⟨wr.heap.size, 0, none⟩ = some (.int .i64 3) := fun W h => ⟨(HL.out.kept0 (gb_trans hfa h)).bx.cell 1, (hba.kept h (by simp)).cell 0⟩
        have hC1 : ∀ W, wa.grownBy W none → W.cell? ⟨wr.heap.size, 1, none⟩ = some (.func (.func 152) #[] #[]) := fun W h => (hba.kept h (by simp)).cell 1
        have hD := hC _ hdr
        clear c1 hga hba
        rcases List.eq_nil_or_concat (X ci 2) with hX | ⟨U, H, hX⟩
        · have ht := fun W (hf : w.grownBy W none) => (htl2 W hf 0 (by rw [hX]; rfl))
          simp only [show ((0 : Nat) : Int) = 0 from rfl] at ht
          have HR : Hid (∀ j, j < 3 → Rst X mk ci hot warm j) := fun j hj => by
            rcases Nat.lt_or_ge j 2 with h1 | h1
            · exact hr j h1
            · obtain rfl : j = 2 := by omega
              exact .inl hX
          clear htl0 htl1 htl2 h107 hf1 hr hC1 hlen
          go_wp2
          clear hwa hix
          go_region_held3 (fun w' => w'.cell? ⟨xb, 1, none⟩ = some (.pointer (some ⟨qb, 0, none⟩)) ∧ w'.cell? ⟨wr.heap.size, 0, none⟩ = some (.int .i64 3)) ((first | with_reducible exact hE2 | with_reducible exact hD | go_keep)) ((go_at_call 20; with_reducible refine (ht _ hfd).mono ?_; rintro y w2 ⟨rfl, hg2⟩; (have hE2 := hC _ (gb_trans hdr hg2))))
          have hF2 := gb_trans hfd hg2
          clear ht hC hD hE2
          go_wp2
          exact ⟨⟨3, by omega, by go_num, hF2, HR.out⟩, by simp [intOf]⟩
        · rw [List.concat_eq_append] at hX
          obtain ⟨hT, hcl, hH0⟩ := HL.out.mem (show H ∈ X ci 2 by rw [hX]; simp)
          have ht := fun W (hf : w.grownBy W none) => (htl2 W hf H (by rw [hX]; simp))
          simp only [show decide (¬ H = 0) = true from decide_eq_true hH0] at ht
          have hac := fun W (hf : w.grownBy W none) => active_81 (HL.out.kept0 hf) hT
          obtain ⟨act, hact⟩ : ∃ act, decide (mk H % 2 = 1) = act := ⟨_, rfl⟩
          simp only [hact] at hac
          have hbh := fun W (hf : w.grownBy W none) => (show Calls Tryz.prog 152 #[.pointer (some ⟨xb, 0, none⟩), .int .i64 ci, .bool act] W fun y w' => y = .returned (.int .i64 (bhd X ci hot warm 2 act : Nat)) ∧ W.grownBy w' none by
            rw [show bhd X ci hot warm 2 act = (if act then 2 else 0) from (if_neg (by decide)).trans (if_neg (by decide))]
            exact (behind_152 xb ci _ W).mono (by rintro y w2 ⟨rfl, rfl⟩; exact ⟨by first | rfl | (split <;> rfl) | skip, gb_refl _ _⟩))
          rcases Nat.eq_zero_or_pos (bhd X ci hot warm 2 act) with hz | hz
          · rw [hz] at hbh
            simp only [show ((0 : Nat) : Int) = 0 from rfl] at hbh
            have HR : Hid (∀ j, j < 3 → Rst X mk ci hot warm j) := fun j hj => by
              rcases Nat.lt_or_ge j 2 with h1 | h1
              · exact hr j h1
              · obtain rfl : j = 2 := by omega
                exact .inr ⟨U, H, hX, by rw [hact, hz]⟩
            clear htl0 htl1 htl2 h107 hf1 hr hlen hX hact hz hT hcl
            go_wp2
            clear hwa hix
            go_region_held3 (fun w' => w'.cell? ⟨xb, 1, none⟩ = some (.pointer (some ⟨qb, 0, none⟩)) ∧ w'.cell? ⟨wr.heap.size, 0, none⟩ = some (.int .i64 3)) ((first | with_reducible exact hE2 | with_reducible exact hD | go_keep)) ((go_at_call 20; with_reducible refine (ht _ hfd).mono ?_; rintro y w2 ⟨rfl, hg2⟩; (have hE2 := hC _ (gb_trans hdr hg2))))
            have hF2 := gb_trans hfd hg2
            have hd2 : w2.grownBy w2.drew none := gb_drew (gb_refl _ _)
            have hF3 := gb_trans hF2 hd2
            have c5 := hC1 _ (gb_trans (gb_trans hdr hg2) hd2)
            have hG2 := gb_trans (gb_trans hdr hg2) hd2
            clear ht hC hD hE2
            go_wp2
            go_region_held3 (fun w' => w'.cell? ⟨wr.heap.size, 1, none⟩ = some (.func (.func 152) #[] #[])) ((first | with_reducible exact c7 | with_reducible exact c6 | with_reducible exact c5 | go_keep)) ((first | (go_at_call 81; with_reducible refine (hac _ hF3).mono ?_; rintro y w4 ⟨rfl, hg4⟩; (have hF4 := gb_trans hF3 hg4); (have hG4 := gb_trans hG2 hg4); (have c6 := hC1 _ hG4)) | (go_at_call 152; with_reducible refine (hbh _ hF4).mono ?_; rintro y w5 ⟨rfl, hg5⟩; (have c7 := hC1 _ (gb_trans hG4 hg5)))))
            have hF5 := gb_trans hF4 hg5
            clear hac hbh hC1 c5 c6 c7
            go_wp2
            exact ⟨⟨3, by omega, by go_num, hF5, HR.out⟩, by simp [intOf]⟩
          · obtain ⟨k2, hk2⟩ : ∃ k2, bhd X ci hot warm 2 act = k2 + 1 := ⟨bhd X ci hot warm 2 act - 1, by omega⟩
            have hk23 : k2 < 3 := by
              have : bhd X ci hot warm 2 act ≤ 3 := by unfold bhd spl; (repeat' split) <;> omega
              omega
            rw [hk2] at hbh
            simp only [show ((k2 + 1 : Nat) : Int) = (k2 : Int) + 1 from rfl] at hbh
            have hmv := fun W (hf : w.grownBy W none) => (move_108L (HL.out.kept0 hf) (HJ.out.2.kept _ _ _ HJ.out.1 (Kp.of hf)) hx HJ.out.2 (H := H) (k := 2) (k2 := k2) (U := U) hcl (by omega) hX hk23 (hlen k2)).mono (R' := fun y w' => y = .returned (.tuple #[]) ∧ Hid (∃ k U H k2, k < 3 ∧ (∀ j, j < k → Rst X mk ci hot warm j) ∧ X ci k = U ++ [H] ∧ bhd X ci hot warm k (decide (mk H % 2 = 1)) = k2 + 1 ∧ k2 < 3 ∧ Kp (fun k => (F k ∨ k = gl) ∨ PJ k) w w' ∧ LQ w' xb sb qb gl gc F B b c d e f g A m T (upB bs H (mk H - mk H % 2)) cls (upX (upX X ci k U) ci k2 (H :: (upX X ci k U) ci k2)) (upf mk H (mk H - mk H % 2)) hot warm ∧ J w' (xs ++ [H]))) (by
              rintro y w' ⟨rfl, hK, hL, hJ'⟩
              exact ⟨rfl, 2, U, H, k2, by omega, hr, hX, by rw [hact, hk2], hk23, (Kp.of hf).trans hK (fun _ h => h) (fun k hk => .inl hk), hL, hJ'⟩)
            have hne : ¬ (k2 : Int) + 1 = 0 := by omega
            clear htl0 htl1 htl2 h107 hf1 hr hlen hX hact hz hT hcl HL HJ hk2 hk23
            go_wp2
            clear hwa hix
            go_region_held3 (fun w' => w'.cell? ⟨xb, 1, none⟩ = some (.pointer (some ⟨qb, 0, none⟩)) ∧ w'.cell? ⟨wr.heap.size, 0, none⟩ = some (.int .i64 3)) ((first | with_reducible exact hE2 | with_reducible exact hD | go_keep)) ((go_at_call 20; with_reducible refine (ht _ hfd).mono ?_; rintro y w2 ⟨rfl, hg2⟩; (have hE2 := hC _ (gb_trans hdr hg2))))
            have hF2 := gb_trans hfd hg2
            have hd2 : w2.grownBy w2.drew none := gb_drew (gb_refl _ _)
            have hF3 := gb_trans hF2 hd2
            have c5 := hC1 _ (gb_trans (gb_trans hdr hg2) hd2)
            have hG2 := gb_trans (gb_trans hdr hg2) hd2
            clear ht hC hD hE2
            go_wp2
            go_region_held3 (fun w' => w'.cell? ⟨wr.heap.size, 1, none⟩ = some (.func (.func 152) #[] #[])) ((first | with_reducible exact c7 | with_reducible exact c6 | with_reducible exact c5 | go_keep)) ((first | (go_at_call 81; with_reducible refine (hac _ hF3).mono ?_; rintro y w4 ⟨rfl, hg4⟩; (have hF4 := gb_trans hF3 hg4); (have hG4 := gb_trans hG2 hg4); (have c6 := hC1 _ hG4)) | (go_at_call 152; with_reducible refine (hbh _ hF4).mono ?_; rintro y w5 ⟨rfl, hg5⟩; (have c7 := hC1 _ (gb_trans hG4 hg5)))))
            have hF5 := gb_trans hF4 hg5
            clear hac hbh hC1 c5 c6 c7
            go_wp2_with (go_at_call 108; go_must (with_reducible refine (hmv _ hF5).mono ?_); rintro y w6 ⟨rfl, hE6⟩)
            go_ret
            exact .inr ⟨rfl, hE6.out⟩
end
end Go.Proofs.YtohneboimmcocaaGreat
