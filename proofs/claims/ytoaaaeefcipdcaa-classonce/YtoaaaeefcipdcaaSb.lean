import Derived.Test.YtoaaaeefcipdcaaT
import Derived.WalkMore
/-
  The program's sizes.
-/
namespace Go.Proofs.Ytoaaaeefcipdcaa
open Go.RowKit
set_option linter.unusedVariables false

def cfgV (a b c d e f g : Int) : Value := .agg #[.int .i64 a, .int .i64 b, .int .i64 c, .int .i64 d, .int .i64 e, .int .i64 f, .int .i64 g]

theorem upTo_8 (n : Nat) (hn : n ≤ 1000000000000) (q : Nat) (hq : Hid (q = (n + 7) / 8)) (w : World) : Calls Try.prog 99 #[.int .i64 n, .int .i64 8] w fun e w' => e = .returned (.int .i64 q) ∧ w = w' := by
  have e1 : ((n : Int) + 8 - 1).tdiv 8 = (q : Int) := by
    rw [Int.tdiv_eq_ediv_of_nonneg (by omega)]
    have := hq.out
    omega
  have hq : q ≤ 1000000001000 := by have := hq.out; omega
  go_enter Try.func99, Try.ntmps99
  go_wp2
  go_ret
  exact ⟨rfl, rfl⟩

theorem upTo_800 (n : Nat) (hn : n ≤ 1000000000000) (q : Nat) (hq : Hid (q = (n + 799) / 800)) (w : World) : Calls Try.prog 99 #[.int .i64 n, .int .i64 800] w fun e w' => e = .returned (.int .i64 q) ∧ w = w' := by
  have e1 : ((n : Int) + 800 - 1).tdiv 800 = (q : Int) := by
    rw [Int.tdiv_eq_ediv_of_nonneg (by omega)]
    have := hq.out
    omega
  have hq : q ≤ 1000000001000 := by have := hq.out; omega
  go_enter Try.func99, Try.ntmps99
  go_wp2
  go_ret
  exact ⟨rfl, rfl⟩

set_option maxHeartbeats 1000000 in
theorem sizes_any {F L s0 il : Nat} (hG : GoodF F L s0) (hL : L = limOf il) (hil : il ≤ 1048576) (a b f g : Int) (w : World) : Calls Try.prog 45 #[cfgV a b F s0 il f g] w fun e w' => w.grownBy w' none ∧
    ((∃ n v, n ≤ 62 ∧ Cls F L s0 n ∧ e = .returned (.tuple #[v, .bool true]) ∧ w'.ownsRow w.heap.size 3 1 v n (ints (szL F L s0 n))) ∨ ((∀ j, j < 62 → chain F L s0 j < L) ∧ e = .returned (.tuple #[.slice none 0 0, .bool false]))) := by
  have hcf := chain_facts hG
  have f0 := hG.f0
  have f1 := hG.f1
  have l1 := hG.l1
  have HL : Hid (L = limOf il) := hL
  obtain ⟨q, hq⟩ : ∃ q, q = (il + 7) / 8 := ⟨_, rfl⟩
  have HQ : Hid (q = (il + 7) / 8) := hq
  have hLi : q * 8 = L := by rw [hL, hq]; simp only [limOf]
  have hLz : (q : Int) * 8 = L := by omega
  clear hL hq
  unfold cfgV
  go_enter Try.func45, Try.ntmps45
  go_wp2
  go_step3
  go_wp2_with (first | (go_at_call 99; go_must (refine (upTo_8 il (by omega) q HQ _).mono ?_); rintro e w' ⟨rfl, rfl⟩) | fail)
  go_step3
  go_wp2
  have hbx : Box ((w.alloc (Obj.cells #[Value.int IntKind.i64 a, Value.int IntKind.i64 b, Value.int IntKind.i64 ↑F, Value.int IntKind.i64 ↑s0, Value.int IntKind.i64 ↑il, Value.int IntKind.i64 f, Value.int IntKind.i64 g] 23)).alloc (Obj.cells #[Value.int IntKind.i64 ↑s0] 3)) 23 w.heap.size #[Value.int IntKind.i64 a, Value.int IntKind.i64 b, Value.int IntKind.i64 ↑F, Value.int IntKind.i64 ↑s0, Value.int IntKind.i64 ↑il, Value.int IntKind.i64 f, Value.int IntKind.i64 g] := (Box.new w 23 _).kept (World.grownBy_alloc _ _ none) (by simp)
  go_loopw [5] (fun v wr => ∃ (k : Nat), k < 62 ∧ (∀ j, j < k → chain F L s0 j < L) ∧ wr.ownsRow (w.heap.size + 1) 3 1 v (k + 1) (ints (szL F L s0 (k + 1))) ∧ w.grownBy wr none ∧ w.heap.size + 1 < wr.heap.size ∧ Box wr 23 w.heap.size #[Value.int IntKind.i64 a, Value.int IntKind.i64 b, Value.int IntKind.i64 ↑F, Value.int IntKind.i64 ↑s0, Value.int IntKind.i64 ↑il, Value.int IntKind.i64 f, Value.int IntKind.i64 g]) (fun v _ => match v with | .slice _ n _ => 62 - n | _ => 0)
  case atStart =>
    refine ⟨0, by omega, fun j h => by omega, ?_, gb_alloc (gb_alloc (gb_refl _ _) _) _, by simp, hbx⟩
    refine ⟨by simp [ints, szL], .inr ⟨w.heap.size + 1, 1, #[.int .i64 s0], rfl, Nat.le_refl _, heap_alloc2_new w _ _, Nat.le_refl _, by unfold maxLen; omega, rfl, by simp [ints, szL, chain]⟩⟩
  case round =>
    obtain ⟨k, hk, hlt, hrow, hF, hsz, hb⟩ := hrel
    obtain ⟨ao, cp, rfl, h1, h2, h3, h4⟩ := row_shape hrow
    obtain ⟨gg, rfl⟩ := h4 (by omega)
    have hgg := hrow.lt gg rfl
    have hc := row_cell hrow k (.int .i64 (chain F L s0 k)) (ints_get _ _ _ (szL_get _ _ _ _ _ (by omega)))
    have hc2 := hb.cell 2
    simp at hc2
    obtain ⟨c8, cs0, cL⟩ := hcf k
    obtain ⟨s, hs⟩ : ∃ s, s = chain F L s0 k := ⟨_, rfl⟩
    have HS : Hid (s = chain F L s0 k) := hs
    rw [← hs] at hc c8 cs0 cL
    by_cases hl : s < L
    · by_cases hk2 : k = 61
      · have HJ : Hid (∀ j, j < 62 → chain F L s0 j < L) := by
          intro j hj
          rcases Nat.lt_or_ge j k with h | h
          · exact hlt j h
          · have : j = k := by omega
            rw [this, ← hs]; exact hl
        subst hk2
        clear hcf hlt hs
        go_wp2
        try rw [Exit.noGoto_ret]
        go_ret2
        exact ⟨hF, .inr ⟨HJ.out, rfl⟩⟩
      · have hd1 : decide ((k : Int) + 1 = 62) = false := by simp; omega
        have hsF : s * F ≤ 1048576 * 400 := Nat.mul_le_mul (by omega) f1
        obtain ⟨p, hp⟩ : ∃ p, p = s * F := ⟨_, rfl⟩
        have hpi : (s : Int) * F = p := by rw [hp]; simp
        rw [← hp] at hsF
        obtain ⟨r, hr⟩ : ∃ r, r = (p + 799) / 800 := ⟨_, rfl⟩
        have HR : Hid (r = (p + 799) / 800) := hr
        have hr1 : r ≤ 1000000 := by omega
        have HN : Hid (chain F L s0 (k + 1) = min L (r * 8)) := by
          show _ = _
          rw [hr, hp, hs]; rfl
        have HJ : Hid (∀ j, j < k + 1 → chain F L s0 j < L) := by
          intro j hj
          rcases Nat.lt_or_ge j k with h | h
          · exact hlt j h
          · have : j = k := by omega
            rw [this, ← hs]; exact hl
        clear hcf hlt hs hp hr
        have fin : ∀ (x : Nat), x = min L (r * 8) → ∀ g1 cap1 w1, World.ownsRow w1 (w.heap.size + 1) 3 1 (.slice (some ⟨g1, 0, none⟩) (k + 1 + 1) cap1) (k + 1 + 1) (ints (szL F L s0 (k + 1)) ++ [.int .i64 x]) → wr.grownBy w1 (some gg) →
            ∃ k', k' < 62 ∧ (∀ j, j < k' → chain F L s0 j < L) ∧ w1.ownsRow (w.heap.size + 1) 3 1 (.slice (some ⟨g1, 0, none⟩) (k + 1 + 1) cap1) (k' + 1) (ints (szL F L s0 (k' + 1))) ∧ w.grownBy w1 none ∧ w.heap.size + 1 < w1.heap.size ∧ Box w1 23 w.heap.size #[Value.int IntKind.i64 a, Value.int IntKind.i64 b, Value.int IntKind.i64 ↑F, Value.int IntKind.i64 ↑s0, Value.int IntKind.i64 ↑il, Value.int IntKind.i64 f, Value.int IntKind.i64 g] := by
          intro x hx g1 cap1 w1 ho hg
          refine ⟨k + 1, by omega, HJ.out, ?_, gb_mine hF hg (by omega), Nat.lt_of_lt_of_le hsz hg.size, hb.kept hg (by simp; omega)⟩
          rw [szL_succ, HN.out, ← hx, ints_snoc]
          exact ho
        have FIN : Hid _ := fin
        clear fin
        rcases Nat.lt_or_ge (r * 8) L with hm | hm
        · have hm1 : (r : Int) * 8 < L := by omega
          go_wp2_with (first | (go_at_call 99; go_must (refine (upTo_800 p (by omega) r HR _).mono ?_); rintro e w' ⟨rfl, rfl⟩) | (at_builtin; go_must (refine push3 rfl _ _ rfl (w.heap.size + 1) _ (k + 1) _ (by rfl) hrow _ (by rfl) (by omega) (by omega) ?_)))
          intro g1 cap1 w1 ho hg hat
          go_wp2
          go_roundw
          case rel => exact FIN.out (r * 8) (by omega) _ _ _ ho hg
          case measure => simp; omega
        · have hm1 : (L : Int) ≤ r * 8 := by omega
          go_wp2_with (first | (go_at_call 99; go_must (refine (upTo_800 p (by omega) r HR _).mono ?_); rintro e w' ⟨rfl, rfl⟩) | (at_builtin; go_must (refine push3 rfl _ _ rfl (w.heap.size + 1) _ (k + 1) _ (by rfl) hrow _ (by rfl) (by omega) (by omega) ?_)))
          intro g1 cap1 w1 ho hg hat
          go_wp2
          go_roundw
          case rel => exact FIN.out L (by omega) _ _ _ ho hg
          case measure => simp; omega
    · have HC : Hid (Cls F L s0 (k + 1)) := ⟨by omega, by simp [← hs]; omega, fun j hj => hlt j (by omega)⟩
      clear hcf hlt hs
      go_wp2
      try rw [Exit.noGoto_ret]
      go_ret2
      exact ⟨hF, .inl ⟨k + 1, _, by omega, HC.out, rfl, row_base hrow (by omega)⟩⟩

end Go.Proofs.Ytoaaaeefcipdcaa
