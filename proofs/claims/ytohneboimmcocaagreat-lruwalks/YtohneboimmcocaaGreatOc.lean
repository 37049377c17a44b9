import Derived.Test.YtohneboimmcocaaGreatPd
/-
  Handles without an item; items in no list: what the queue and the Lru answer.
-/
namespace Go.Proofs.YtohneboimmcocaaGreat
open Go.RowKit
set_option linter.unusedVariables false

/-- No item is there. -/
def NoI (A : Ab) (zs : List Int) (H : Nat) : Prop := H < 18446744073709551616 ∧ ((∀ p k, ¬ IsH A H p k) ∨ ∃ p k, IsH A H p k ∧ getL zs (A.place p k + 44) 1 0 0 = 0)

section
variable {w : World} {sb : Nat} {F : Nat → Prop} {B : Bl} {b c d e f g : Int} {A : Ab} {zs : List Int}

set_option maxRecDepth 100000 in
set_option maxHeartbeats 1000000 in
theorem state_none (h : IsS w sb F B b c d e f g A zs) (hA : Fit2 A) {H : Nat} (hN : NoI A zs H) :
    Calls Tryz.prog 46 #[.pointer (some ⟨sb, 0, none⟩), .int .u64 H] w fun y w' => ∃ er : Int, y = .returned (.tuple #[.int .i64 0, .int .i64 er]) ∧ w.grownBy w' none := by
  have htl : ∃ er : Int, Calls Tryz.prog 87 #[.pointer (some ⟨sb, 0, none⟩), .int .u64 H, .int .i64 45] w fun y w' => y = .returned (.tuple #[.int .u8 0, .int .i64 er]) ∧ w.grownBy w' none := by
    rcases hN.2 with hb | ⟨p, k, hH, h0⟩
    · have hop := open_no h hA hN.1 hb
      refine ⟨20, ?_⟩
      clear h hb
      go_enter Tryz.func87, Tryz.ntmps87
      go_wp2_with (first | (go_at_call 122; go_must (refine hop.mono ?_); rintro y w1 ⟨rfl, hf1⟩; (have hf2 : w.grownBy (w1.alloc (.cells #[.pointer none, .int .i64 0, .int .i64 0, .int .i64 0] 190)) none := gb_alloc hf1 _)) | fail)
      go_ret2
      exact ⟨rfl, hf2⟩
    · have hop := open_yes h hA hH
      have hhi := fun w1 (hf : w.grownBy w1 none) => hasItem_it h hA hH.hp hH.hk 0 h0 (by omega) hf
      rw [decide_eq_false (show ¬ 0 < 0 by omega)] at hhi
      refine ⟨0, ?_⟩
      clear h hH h0
      unfold chV at *
      generalize A.place p k = pl at *
      generalize A.sz (A.own p) = s at *
      generalize A.own p = op at *
      generalize B.ab = ab at *
      go_enter Tryz.func87, Tryz.ntmps87
      go_wp2_with (first | (go_at_call 122; go_must (refine hop.mono ?_); rintro y w1 ⟨rfl, hf1⟩; (have hf2 : w.grownBy (w1.alloc (.cells #[.pointer (some ⟨ab, 0, none⟩), .int .i64 pl, .int .i64 op, .int .i64 s] 190)) none := gb_alloc hf1 _); (have hc2 := Box.new w1 190 #[.pointer (some ⟨ab, 0, none⟩), .int .i64 pl, .int .i64 op, .int .i64 s])) | (go_at_call 123; go_must (refine (hhi _ hf2).mono ?_); rintro y w3 ⟨rfl, hf3⟩) | fail)
      go_ret2
      exact ⟨rfl, gb_trans hf2 hf3⟩
  obtain ⟨er, htl⟩ := htl
  clear h hN
  go_enter Tryz.func46, Tryz.ntmps46
  go_wp2_with (first | (go_at_call 87; go_must (refine htl.mono ?_); rintro y w1 ⟨rfl, hf1⟩) | fail)
  go_ret2
  exact ⟨er, rfl, hf1⟩

set_option maxRecDepth 100000 in
set_option maxHeartbeats 1000000 in
theorem lengths_none (h : IsS w sb F B b c d e f g A zs) (hA : Fit2 A) {H : Nat} (hN : NoI A zs H) :
    Calls Tryz.prog 156 #[.pointer (some ⟨sb, 0, none⟩), .int .u64 H] w fun y w' => ∃ er : Int, y = .returned (.tuple #[.int .i64 0, .int .i64 0, .int .i64 er]) ∧ w.grownBy w' none := by
  rcases hN.2 with hb | ⟨p, k, hH, h0⟩
  · have hop := open_no h hA hN.1 hb
    clear h hb hN
    go_enter Tryz.func156, Tryz.ntmps156
    go_wp2_with (first | (go_at_call 122; go_must (refine hop.mono ?_); rintro y w1 ⟨rfl, hf1⟩; (have hf2 : w.grownBy (w1.alloc (.cells #[.pointer none, .int .i64 0, .int .i64 0, .int .i64 0] 190)) none := gb_alloc hf1 _)) | fail)
    go_ret3
    exact ⟨20, rfl, hf2⟩
  · have hop := open_yes h hA hH
    have hhi := fun w1 (hf : w.grownBy w1 none) => hasItem_it h hA hH.hp hH.hk 0 h0 (by omega) hf
    rw [decide_eq_false (show ¬ 0 < 0 by omega)] at hhi
    clear h hH h0 hN
    unfold chV at *
    generalize A.place p k = pl at *
    generalize A.sz (A.own p) = s at *
    generalize A.own p = op at *
    generalize B.ab = ab at *
    go_enter Tryz.func156, Tryz.ntmps156
    go_wp2_with (first | (go_at_call 122; go_must (refine hop.mono ?_); rintro y w1 ⟨rfl, hf1⟩; (have hf2 : w.grownBy (w1.alloc (.cells #[.pointer (some ⟨ab, 0, none⟩), .int .i64 pl, .int .i64 op, .int .i64 s] 190)) none := gb_alloc hf1 _); (have hc2 := Box.new w1 190 #[.pointer (some ⟨ab, 0, none⟩), .int .i64 pl, .int .i64 op, .int .i64 s])) | (go_at_call 123; go_must (refine (hhi _ hf2).mono ?_); rintro y w3 ⟨rfl, hf3⟩) | fail)
    go_ret3
    exact ⟨0, rfl, gb_trans hf2 hf3⟩
end

section
variable {w : World} {sb qb gl gc : Nat} {F : Nat → Prop} {B : Bl} {b c d e f g : Int} {A : Ab} {zs : List Int} {T : List Nat} {bs : Nat → It} {p n s : Nat → Nat} {L : Ls}

set_option maxRecDepth 100000 in
theorem q_stateN (h : QM w sb qb gl gc F B b c d e f g A zs T bs p n s L) {H : Nat} (hN : NoI A zs H) :
    Calls Tryz.prog 99 #[.pointer (some ⟨qb, 0, none⟩), .int .u64 H] w fun y w' => y = .returned (.int .i64 0) ∧ w.grownBy w' none := by
  have c0 := h.box.cell 0
  simp at c0
  have hst := state_none h.iss h.inv.fit hN
  clear h hN
  go_enter Tryz.func99, Tryz.ntmps99
  go_wp2_with (first | (go_at_call 46; go_must (refine hst.mono ?_); rintro y w1 ⟨er, rfl, hf1⟩) | fail)
  go_ret
  exact ⟨rfl, hf1⟩

set_option maxRecDepth 100000 in
theorem q_mayN (h : QM w sb qb gl gc F B b c d e f g A zs T bs p n s L) {H k : Nat} (hk : k < 3) (hN : NoI A zs H) :
    Calls Tryz.prog 118 #[.pointer (some ⟨qb, 0, none⟩), .int .u64 H, .int .i64 ((k : Int) + 1)] w fun y w' => y = .returned (.int .i64 20) ∧ w.grownBy w' none := by
  have c0 := h.box.cell 0
  simp at c0
  have hln := lengths_none h.iss h.inv.fit hN
  have hik := fun W => isKind_yes k hk W
  clear h hN
  go_enter Tryz.func118, Tryz.ntmps118
  go_wp2_with (first | (go_at_call 98; with_reducible refine (hik _).mono ?_; rintro y w' ⟨rfl, rfl⟩) | (go_at_call 156; go_must (refine hln.mono ?_); rintro y w1 ⟨er, rfl, hf1⟩) | fail)
  go_ret
  exact ⟨rfl, hf1⟩

set_option maxRecDepth 100000 in
theorem q_mayT (h : QM w sb qb gl gc F B b c d e f g A zs T bs p n s L) {H k j : Nat} (hH : H ∈ T) (hk : k < 3) (hj : j < 3) (hs : s H = j + 1) :
    Calls Tryz.prog 118 #[.pointer (some ⟨qb, 0, none⟩), .int .u64 H, .int .i64 ((k : Int) + 1)] w fun y w' => y = .returned (.int .i64 8) ∧ w.grownBy w' none := by
  have c0 := h.box.cell 0
  simp at c0
  obtain ⟨x, i, hX, hI, hsz⟩ := h.its H hH
  have hk1 := hI.k1
  have hvn := hI.vn
  have hln := lengths_yes h.iss h.inv.fit hX _ hI.kl (by omega) _ hI.vl (by omega)
  have hst := fun W (hf : w.grownBy W none) => q_state (h.kept0 hf) hH
  rw [hs] at hst
  simp only [show ((j + 1 : Nat) : Int) = (j : Int) + 1 from rfl] at hst
  have hik := fun W => isKind_yes k hk W
  have hin := fun W => isKind_yes j hj W
  generalize (itm bs p n s H).key.length = kl at *
  generalize (itm bs p n s H).val.length = vl at *
  have hkl0 : ¬ kl = 0 := by omega
  have hkl1 : ¬ (kl : Int) = 0 := by omega
  clear h hX hI hs hsz
  go_enter Tryz.func118, Tryz.ntmps118
  go_wp2_with (first | (go_at_call 98; with_reducible refine (hik _).mono ?_; rintro y w' ⟨rfl, rfl⟩) | (go_at_call 98; with_reducible refine (hin _).mono ?_; rintro y w' ⟨rfl, rfl⟩) | (go_at_call 156; go_must (refine hln.mono ?_); rintro y w1 ⟨rfl, hf1⟩) | (go_at_call 99; go_must (refine (hst _ hf1).mono ?_); rintro y w2 ⟨rfl, hf2⟩) | fail)
  go_ret
  exact ⟨rfl, gb_trans hf1 hf2⟩

/-- In a list, in none, no item. -/
theorem q_push_no {er : Int} (h0 : er = 20 ∨ er = 8) {H k : Nat} (hm : Calls Tryz.prog 118 #[.pointer (some ⟨qb, 0, none⟩), .int .u64 H, .int .i64 ((k : Int) + 1)] w fun y w' => y = .returned (.int .i64 er) ∧ w.grownBy w' none) :
    Calls Tryz.prog 76 #[.pointer (some ⟨qb, 0, none⟩), .int .u64 H, .int .i64 ((k : Int) + 1)] w fun y w' => y = .returned (.int .i64 er) ∧ w.grownBy w' none := by
  rcases h0 with rfl | rfl
  all_goals
    go_enter Tryz.func76, Tryz.ntmps76
    go_wp2_with (first | (go_at_call 118; go_must (refine hm.mono ?_); rintro y w1 ⟨rfl, hf1⟩) | fail)
    go_ret
    exact ⟨rfl, hf1⟩
theorem enter_no {er : Int} (h0 : er = 20 ∨ er = 8) {xb H : Nat} {v0 v2 v3 : Value} (hb : Box w 120 xb #[v0, .pointer (some ⟨qb, 0, none⟩), v2, v3]) (hm : Calls Tryz.prog 118 #[.pointer (some ⟨qb, 0, none⟩), .int .u64 H, .int .i64 ((0 : Nat) + 1)] w fun y w' => y = .returned (.int .i64 er) ∧ w.grownBy w' none) :
    Calls Tryz.prog 32 #[.pointer (some ⟨xb, 0, none⟩), .int .u64 H] w fun y w' => y = .returned (.int .i64 er) ∧ w.grownBy w' none := by
  have hp := q_push_no h0 hm
  simp only [show (((0 : Nat) : Int) + 1) = 1 from rfl] at hp
  have c1 := hb.cell 1
  simp at c1
  clear hm hb
  rcases h0 with rfl | rfl
  all_goals
    go_enter Tryz.func32, Tryz.ntmps32
    go_wp2_with (first | (go_at_call 76; go_must (refine hp.mono ?_); rintro y w1 ⟨rfl, hf1⟩) | fail)
    go_ret
    exact ⟨rfl, hf1⟩
/-- The state is no list's. -/
theorem drop_none {H : Nat} {st : Int} (hs : ¬ (1 ≤ st ∧ st ≤ 3)) (hst : Calls Tryz.prog 99 #[.pointer (some ⟨qb, 0, none⟩), .int .u64 H] w fun y w' => y = .returned (.int .i64 st) ∧ w.grownBy w' none) :
    Calls Tryz.prog 75 #[.pointer (some ⟨qb, 0, none⟩), .int .u64 H] w fun y w' => y = .returned (.int .i64 20) ∧ w.grownBy w' none := by
  have hin := fun W => isKind_no st hs W
  clear hs
  go_enter Tryz.func75, Tryz.ntmps75
  go_wp2_with (first | (go_at_call 99; go_must (refine hst.mono ?_); rintro y w1 ⟨rfl, hf1⟩) | (go_at_call 98; go_must (refine (hin _).mono ?_); rintro y w' ⟨rfl, rfl⟩) | fail)
  go_ret
  exact ⟨rfl, hf1⟩
theorem shift_none {H k : Nat} (hk : k < 3) {st : Int} (hs : ¬ (1 ≤ st ∧ st ≤ 3)) (hst : Calls Tryz.prog 99 #[.pointer (some ⟨qb, 0, none⟩), .int .u64 H] w fun y w' => y = .returned (.int .i64 st) ∧ w.grownBy w' none) :
    Calls Tryz.prog 56 #[.pointer (some ⟨qb, 0, none⟩), .int .u64 H, .int .i64 ((k : Int) + 1)] w fun y w' => y = .returned (.int .i64 20) ∧ w.grownBy w' none := by
  have hin := fun W => isKind_no st hs W
  have hik := fun W => isKind_yes k hk W
  clear hs
  go_enter Tryz.func56, Tryz.ntmps56
  go_wp2_with (first | (go_at_call 99; go_must (refine hst.mono ?_); rintro y w1 ⟨rfl, hf1⟩) | (go_at_call 98; with_reducible refine (hik _).mono ?_; rintro y w' ⟨rfl, rfl⟩) | (go_at_call 98; with_reducible refine (hin _).mono ?_; rintro y w' ⟨rfl, rfl⟩) | fail)
  go_ret
  exact ⟨rfl, hf1⟩
theorem shift_argP {H : Nat} {k : Int} (hk : ¬ (1 ≤ k ∧ k ≤ 3)) (w : World) :
    Calls Tryz.prog 56 #[.pointer (some ⟨qb, 0, none⟩), .int .u64 H, .int .i64 k] w fun y w' => y = .returned (.int .i64 1) ∧ w.grownBy w' none := by
  have hin := fun W => isKind_no k hk W
  clear hk
  go_enter Tryz.func56, Tryz.ntmps56
  go_wp2_with (first | (go_at_call 98; go_must (refine (hin _).mono ?_); rintro y w' ⟨rfl, rfl⟩) | fail)
  go_ret
  exact ⟨rfl, gb_refl _ _⟩
theorem leave_31 {xb H : Nat} {v0 v2 v3 : Value} (hb : Box w 120 xb #[v0, .pointer (some ⟨qb, 0, none⟩), v2, v3]) {er : Int} {R : World → Prop} (hd : Calls Tryz.prog 75 #[.pointer (some ⟨qb, 0, none⟩), .int .u64 H] w fun y w' => y = .returned (.int .i64 er) ∧ R w') :
    Calls Tryz.prog 31 #[.pointer (some ⟨xb, 0, none⟩), .int .u64 H] w fun y w' => y = .returned (.int .i64 er) ∧ R w' := by
  have c1 := hb.cell 1
  simp at c1
  clear hb
  go_enter Tryz.func31, Tryz.ntmps31
  go_wp2_with (first | (go_at_call 75; go_must (refine hd.mono ?_); rintro y w1 ⟨rfl, hR⟩) | fail)
  go_ret
  exact ⟨rfl, hR⟩
/-- Hit of what stands in no list. -/
theorem hit_no {xb H : Nat} {st : Int} (hs : ¬ (1 ≤ st ∧ st ≤ 3)) {v1 v2 v3 : Value} (hb : Box w 120 xb #[.pointer (some ⟨sb, 0, none⟩), v1, v2, v3]) (hst : Calls Tryz.prog 46 #[.pointer (some ⟨sb, 0, none⟩), .int .u64 H] w fun y w' => ∃ er : Int, y = .returned (.tuple #[.int .i64 st, .int .i64 er]) ∧ w.grownBy w' none) :
    Calls Tryz.prog 33 #[.pointer (some ⟨xb, 0, none⟩), .int .u64 H] w fun y w' => y = .returned (.int .i64 20) ∧ w.grownBy w' none := by
  have c0 := hb.cell 0
  simp at c0
  clear hb
  by_cases h1 : 1 ≤ st
  · have h2 : ¬ st ≤ 3 := fun h2 => hs ⟨h1, h2⟩
    clear hs
    go_enter Tryz.func33, Tryz.ntmps33
    go_wp2_with (first | (go_at_call 46; go_must (refine hst.mono ?_); rintro y w1 ⟨er, rfl, hf1⟩) | fail)
    go_ret
    exact ⟨rfl, hf1⟩
  · clear hs
    go_enter Tryz.func33, Tryz.ntmps33
    go_wp2_with (first | (go_at_call 46; go_must (refine hst.mono ?_); rintro y w1 ⟨er, rfl, hf1⟩) | fail)
    go_ret
    exact ⟨rfl, hf1⟩
end
end Go.Proofs.YtohneboimmcocaaGreat
/-
  The Lru: Hit; classes that there are not; Balance of no steps.
-/
namespace Go.Proofs.YtohneboimmcocaaGreat
open Go.RowKit
set_option linter.unusedVariables false

theorem or_f : ∀ v : Fin 16, bits BinOp.or IntKind.i64 (v.val : Int) 1 = ((v.val + (1 - v.val % 2) : Nat) : Int) := by decide +kernel
theorem or_one (v : Nat) (h : v ≤ 15) : bits BinOp.or IntKind.i64 (v : Int) 1 = ((v + (1 - v % 2) : Nat) : Int) := or_f ⟨v, by omega⟩

section
variable {w : World} {xb sb qb gl gc : Nat} {F : Nat → Prop} {B : Bl} {b c d e f g : Int} {A : Ab} {m : List Int} {T : List Nat} {bs : Nat → It} {cls : Nat → Nat} {X : Nat → Nat → List Nat} {mk : Nat → Nat} {hot warm : Nat}
/-- Hit. -/
theorem hit_33 (h : LQ w xb sb qb gl gc F B b c d e f g A m T bs cls X mk hot warm) {H k : Nat} (hm : H ∈ X (cls H) k) :
    Calls Tryz.prog 33 #[.pointer (some ⟨xb, 0, none⟩), .int .u64 H] w fun y w' => y = .returned (.int .i64 0) ∧ Kp (fun k => F k ∨ k = gl) w w' ∧ LQ w' xb sb qb gl gc F B b c d e f g A m T (upB bs H (mk H + (1 - mk H % 2))) cls X (upf mk H (mk H + (1 - mk H % 2))) hot warm := by
  have hst : Calls Tryz.prog 46 #[.pointer (some ⟨sb, 0, none⟩), .int .u64 H] w fun y w' => y = .returned (.tuple #[.int .i64 ((k : Int) + 1), .int .i64 0]) ∧ w.grownBy w' none := by
    obtain ⟨p, n, s, L, ⟨zs, hz, hq⟩, hI⟩ := h.ql.ex
    obtain ⟨h1, h2, h3⟩ := hI.sub _ _ _ hm
    obtain ⟨x, kk, hX, hIt, _⟩ := hq.its H h1
    have := state_yes hq.iss hq.inv.fit hX _ hIt
    rw [show (itm bs p n s H).st = ((s H : Nat) : Int) from rfl, h2] at this
    exact this
  obtain ⟨hH, hk3⟩ : H ∈ T ∧ k < 3 := by
    obtain ⟨p, n, s, L, _, hI⟩ := h.ql.ex
    exact ⟨(hI.sub _ _ _ hm).1, hI.k3 _ _ _ hm⟩
  have hm79 := fun W (hf : w.grownBy W none) => marks_79 (h.kept0 hf) hH
  have hv := (h.mks H hH).2
  have hset := fun W (hf : w.grownBy W none) => (q_setMarks (h.kept0 hf).ql hH (v := mk H + (1 - mk H % 2)) (by omega)).mono (R' := fun y w' => y = .returned (.int .i64 0) ∧ w'.cell? ⟨xb, 0, none⟩ = some (.pointer (some ⟨sb, 0, none⟩)) ∧ Hid (Kp (fun k => F k ∨ k = gl) w w' ∧ LQ w' xb sb qb gl gc F B b c d e f g A m T (upB bs H (mk H + (1 - mk H % 2))) cls X (upf mk H (mk H + (1 - mk H % 2))) hot warm)) (by
    rintro y w' ⟨rfl, hK, hQ⟩
    have hK2 : Kp (fun k => F k ∨ k = gl) W w' := hK.mono (fun i hi => .inl (.inl hi))
    have hb2 := hK2.box (h.kept0 hf).bx (by rintro (h1 | h1); exact h.nx h1; exact h.ng h1)
    refine ⟨rfl, hb2.cell 0, (Kp.of hf).trans hK2 (fun _ h => h) (fun i hi => .inl hi), hQ, hb2, h.nx, h.ng, fun G hG => ?_⟩
    by_cases e : G = H
    · subst e
      rw [upB_same, upf_same]
      exact ⟨rfl, by omega⟩
    · rw [upB_ne _ e, upf_ne _ _ e]
      exact h.mks G hG)
  have hC : ∀ W, w.grownBy W none → W.cell? ⟨xb, 0, none⟩ = some (.pointer (some ⟨sb, 0, none⟩)) := fun W hf => (h.kept0 hf).bx.cell 0
  have c0 := hC w (gb_refl _ _)
  clear h hm
  generalize upB bs H (mk H + (1 - mk H % 2)) = bs' at *
  generalize upf mk H (mk H + (1 - mk H % 2)) = mk' at *
  generalize mk H = v at *
  have hbn := or_one v hv
  obtain ⟨u, hu⟩ : ∃ u, v + (1 - v % 2) = u := ⟨_, rfl⟩
  simp only [hu] at hbn hset
  clear hu
  have k1 : ¬ ((k : Int) + 1 < 1) := by omega
  have k2 : ¬ ((k : Int) + 1 > 3) := by omega
  have k3 : decide ((k : Int) + 1 < 1) = false := decide_eq_false k1
  have k4 : decide ((k : Int) + 1 > 3) = false := decide_eq_false k2
  go_enter Tryz.func33, Tryz.ntmps33
  go_wp2_with (first | (go_at_call 46; go_must (refine hst.mono ?_); rintro y w1 ⟨rfl, hf1⟩; (have c1 := hC _ hf1)) | fail)
  have hd1 : w.grownBy w1.drew none := gb_trans hf1 (gb_drew (gb_refl _ _))
  have c2 := hC _ hd1
  clear hst c0
  go_region_held3 (fun w' => w'.cell? ⟨xb, 0, none⟩ = some (.pointer (some ⟨sb, 0, none⟩))) ((first | with_reducible exact c2 | with_reducible exact c3 | with_reducible exact c4 | go_keep)) ((first | (go_at_call 79; with_reducible refine (hm79 _ hd1).mono ?_; rintro y w2 ⟨rfl, hf2⟩; (have hf3 := gb_trans hd1 hf2); (have c3 := gb_cellN hf2 c2)) | (go_at_call 78; with_reducible refine (hset _ hf3).mono ?_; rintro y w3 ⟨rfl, c4, hE⟩)))
  go_wp2
  go_ret
  exact ⟨rfl, hE.out⟩
end

section
variable {w : World} {xb sb qb gl gc : Nat} {v0 v2 v3 : Value} {n : Nat}
set_option maxRecDepth 100000 in
/-- list, of what there is not. -/
theorem q_listNo (hb : Box w 169 qb #[.pointer (some ⟨sb, 0, none⟩), .slice (some ⟨gl, 0, none⟩) n gc]) (hn : n ≤ 62) {ci : Int} (hc : ¬ (0 ≤ ci ∧ ci < n)) (k : Int) :
    Calls Tryz.prog 62 #[.pointer (some ⟨qb, 0, none⟩), .int .i64 ci, .int .i64 k] w fun y w' => ∃ lb, y = .returned (.pointer (some ⟨lb, 0, none⟩)) ∧ w.grownBy w' none ∧ w'.cell? ⟨lb, 0, none⟩ = some (.int .u64 0) ∧ w'.cell? ⟨lb, 1, none⟩ = some (.int .u64 0) ∧ w'.cell? ⟨lb, 2, none⟩ = some (.int .i64 0) := by
  have c1 := hb.cell 1
  simp at c1
  clear hb
  by_cases h0 : 0 ≤ ci
  · have h1 : ¬ ci < (n : Int) := fun h => hc ⟨h0, h⟩
    have h2 : (n : Int) ≤ ci := by omega
    have h3 : ¬ ci < 0 := by omega
    clear hc
    go_enter Tryz.func62, Tryz.ntmps62
    go_wp2
    go_ret
    exact ⟨_, rfl, gb_alloc (gb_refl _ _) _, (Box.new w 99 #[.int .u64 0, .int .u64 0, .int .i64 0]).cell 0, (Box.new w 99 #[.int .u64 0, .int .u64 0, .int .i64 0]).cell 1, (Box.new w 99 #[.int .u64 0, .int .u64 0, .int .i64 0]).cell 2⟩
  · have h1 : ci < 0 := by omega
    clear hc
    go_enter Tryz.func62, Tryz.ntmps62
    go_wp2
    go_ret
    exact ⟨_, rfl, gb_alloc (gb_refl _ _) _, (Box.new w 99 #[.int .u64 0, .int .u64 0, .int .i64 0]).cell 0, (Box.new w 99 #[.int .u64 0, .int .u64 0, .int .i64 0]).cell 1, (Box.new w 99 #[.int .u64 0, .int .u64 0, .int .i64 0]).cell 2⟩
theorem q_lenNo (hb : Box w 169 qb #[.pointer (some ⟨sb, 0, none⟩), .slice (some ⟨gl, 0, none⟩) n gc]) (hn : n ≤ 62) {ci : Int} (hc : ¬ (0 ≤ ci ∧ ci < n)) (k : Int) :
    Calls Tryz.prog 80 #[.pointer (some ⟨qb, 0, none⟩), .int .i64 ci, .int .i64 k] w fun y w' => y = .returned (.int .i64 0) ∧ w.grownBy w' none := by
  have hl := q_listNo hb hn hc k
  clear hb hc
  go_enter Tryz.func80, Tryz.ntmps80
  go_wp2_with (first | (go_at_call 62; go_must (refine hl.mono ?_); rintro y w1 ⟨lb, rfl, hf1, d0, d1, d2⟩) | fail)
  go_ret
  exact ⟨rfl, hf1⟩
theorem q_tailNo (hb : Box w 169 qb #[.pointer (some ⟨sb, 0, none⟩), .slice (some ⟨gl, 0, none⟩) n gc]) (hn : n ≤ 62) {ci : Int} (hc : ¬ (0 ≤ ci ∧ ci < n)) (k : Int) :
    Calls Tryz.prog 20 #[.pointer (some ⟨qb, 0, none⟩), .int .i64 ci, .int .i64 k] w fun y w' => y = .returned (.tuple #[.int .u64 0, .bool false]) ∧ w.grownBy w' none := by
  have hl := q_listNo hb hn hc k
  have ht := fun W => told_no W
  clear hb hc
  go_enter Tryz.func20, Tryz.ntmps20
  go_wp2_with (first | (go_at_call 62; go_must (refine hl.mono ?_); rintro y w1 ⟨lb, rfl, hf1, d0, d1, d2⟩) | (go_at_call 61; go_must (refine (ht _).mono ?_); rintro y w' ⟨rfl, rfl⟩) | fail)
  go_ret2
  exact ⟨rfl, hf1⟩
set_option maxRecDepth 100000 in
theorem len_35No (hb : Box w 169 qb #[.pointer (some ⟨sb, 0, none⟩), .slice (some ⟨gl, 0, none⟩) n gc]) (hx : Box w 120 xb #[v0, .pointer (some ⟨qb, 0, none⟩), v2, v3]) (hn : n ≤ 62) {ci : Int} (hc : ¬ (0 ≤ ci ∧ ci < n)) :
    Calls Tryz.prog 35 #[.pointer (some ⟨xb, 0, none⟩), .int .i64 ci] w fun y w' => y = .returned (.tuple #[.int .i64 0, .int .i64 0, .int .i64 0]) ∧ w.grownBy w' none := by
  have h0 := fun k W (hf : w.grownBy W none) => q_lenNo (hb.kept hf (by simp)) hn hc k
  have hC : ∀ W, w.grownBy W none → W.cell? ⟨xb, 1, none⟩ = some (.pointer (some ⟨qb, 0, none⟩)) := fun W hf => (hx.kept hf (by simp)).cell 1
  clear hb hx hc
  have hdr : w.grownBy w.drew none := gb_drew (gb_refl _ _)
  go_enter Tryz.func35, Tryz.ntmps35
  go_wp2
  go_region_held3 (fun w' => w'.cell? ⟨xb, 1, none⟩ = some (.pointer (some ⟨qb, 0, none⟩))) ((first | with_reducible exact hC _ hf3 | with_reducible exact hC _ hf2 | with_reducible exact hC _ hf1 | with_reducible exact hC _ hdr | go_keep)) ((first | (go_at_call 80; with_reducible refine (h0 1 _ hdr).mono ?_; rintro y w1 ⟨rfl, hg1⟩; (have hf1 := gb_trans hdr hg1)) | (go_at_call 80; with_reducible refine (h0 2 _ hf1).mono ?_; rintro y w2 ⟨rfl, hg2⟩; (have hf2 := gb_trans hf1 hg2)) | (go_at_call 80; with_reducible refine (h0 3 _ hf2).mono ?_; rintro y w3 ⟨rfl, hg3⟩; (have hf3 := gb_trans hf2 hg3))))
  go_wp2
  go_ret3
  exact ⟨rfl, hf3⟩
theorem all_59No (hb : Box w 169 qb #[.pointer (some ⟨sb, 0, none⟩), .slice (some ⟨gl, 0, none⟩) n gc]) (hx : Box w 120 xb #[v0, .pointer (some ⟨qb, 0, none⟩), v2, v3]) (hn : n ≤ 62) {ci : Int} (hc : ¬ (0 ≤ ci ∧ ci < n)) :
    Calls Tryz.prog 59 #[.pointer (some ⟨xb, 0, none⟩), .int .i64 ci] w fun y w' => y = .returned (.int .i64 (0 : Nat)) ∧ w.grownBy w' none := by
  have hl := len_35No hb hx hn hc
  clear hb hx hc
  go_enter Tryz.func59, Tryz.ntmps59
  go_wp2_with (first | (go_at_call 35; go_must (refine hl.mono ?_); rintro y w1 ⟨rfl, hf1⟩) | fail)
  go_ret
  exact ⟨rfl, hf1⟩
/-- Balance without a step. -/
theorem balance_none {ci links : Int} {tt : Nat} (hal : Calls Tryz.prog 59 #[.pointer (some ⟨xb, 0, none⟩), .int .i64 ci] w fun y w' => y = .returned (.int .i64 tt) ∧ w.grownBy w' none) (ht : tt < 1099511627776) (h0 : links < 1 ∨ tt = 0) (lv : Value) :
    Calls Tryz.prog 18 #[.pointer (some ⟨xb, 0, none⟩), .int .i64 ci, .int .i64 links, lv] w fun y w' => y = .returned (.int .i64 0) ∧ w.grownBy w' none := by
  have e1 : IntKind.i64.wrap (2 * (tt : Int)) = 2 * (tt : Int) := by rw [IntKind.wrap_i64]; omega
  go_enter Tryz.func18, Tryz.ntmps18
  go_wp2_with (go_at_call 59; go_must (refine hal.mono ?_); rintro y w1 ⟨rfl, hf1⟩)
  · have hd1 : decide ((0 : Int) < 2 * (tt : Int)) = false := decide_eq_false (by omega)
    clear h0
    go_loopw [9] (fun v wr => v = .int .i64 0 ∧ wr = w1) (fun v _ => 0)
    case atStart => exact ⟨rfl, rfl⟩
    case round =>
      obtain ⟨rfl, rfl⟩ := hrel
      go_wp2
      go_ret
      exact ⟨rfl, hf1⟩
  · have hd1 : decide ((0 : Int) < links) = false := decide_eq_false (by omega)
    clear h0
    go_loopw [9] (fun v wr => v = .int .i64 0 ∧ wr = w1) (fun v _ => 0)
    case atStart => exact ⟨rfl, rfl⟩
    case round =>
      obtain ⟨rfl, rfl⟩ := hrel
      go_wp2
      go_ret
      exact ⟨rfl, hf1⟩
end
end Go.Proofs.YtohneboimmcocaaGreat
