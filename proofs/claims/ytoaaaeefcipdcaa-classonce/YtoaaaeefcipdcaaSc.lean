import Derived.Test.YtoaaaeefcipdcaaSb
import Derived.Test.YtoaaaeefcipdcaaAa
/-
  The document's sizes; what is refused.
-/
namespace Go.Proofs.Ytoaaaeefcipdcaa
open Go.RowKit
set_option linter.unusedVariables false

def refV (a b c d e : Int) : Value := .agg #[.int .i64 a, .int .i64 b, .int .i64 c, .int .i64 d, .int .i64 e]
def refA (a b c d e : Int) : Array Value := #[.int .i64 a, .int .i64 b, .int .i64 c, .int .i64 d, .int .i64 e]

def PageOk (a : Int) : Prop := ∃ k : Nat, a = ((2 ^ k : Nat) : Int) ∧ 12 ≤ k ∧ k ≤ 20

theorem pow_range (k : Nat) (h : k ≤ 20) : 2 ^ k ≤ 1048576 := Nat.pow_le_pow_right (n := 2) (j := 20) (by omega) h

/-- What 'right' says. -/
def RightOk (a b : Int) (r : Bool) : Prop := r = true ↔ PageOk a ∧ 1 ≤ b ∧ b ≤ 1024

set_option maxHeartbeats 1000000 in
theorem right_any (a b : Int) (w : World) : Calls Try.prog 97 #[.int .i64 a, .int .i64 b] w fun e w' => ∃ r, e = .returned (.bool r) ∧ w = w' ∧ RightOk a b r := by
  go_enter Try.func97, Try.ntmps97
  go_wp2
  go_loopw [5] (fun v wr => ∃ (k : Nat), 12 ≤ k ∧ k ≤ 21 ∧ v = .int .i64 ((2 ^ k : Nat) : Int) ∧ w = wr ∧ ∀ j, 12 ≤ j → j < k → a ≠ ((2 ^ j : Nat) : Int)) (fun v _ => 4194304 - (intOf v).toNat)
  case atStart => exact ⟨12, by omega, by omega, rfl, rfl, fun j h1 h2 => by omega⟩
  case round =>
    obtain ⟨k, h1, h2, rfl, rfl, h3⟩ := hrel
    obtain ⟨p, hp⟩ : ∃ p, p = 2 ^ k := ⟨_, rfl⟩
    have hp0 : 0 < p := by rw [hp]; exact Nat.pow_pos (by omega)
    have hps : Hid (2 ^ (k + 1) = 2 * p) := by show _ = _; rw [hp, Nat.pow_succ]; omega
    rw [← hp]
    by_cases hk : k = 21
    · have hpv : p = 2097152 := by rw [hp, hk]
      have HN : Hid (¬ PageOk a) := by
        rintro ⟨j, e1, e2, e3⟩
        exact h3 j e2 (by omega) e1
      clear h3 hp
      subst hpv
      go_wp2
      go_ret
      exact ⟨false, rfl, rfl, by simp [RightOk, HN.out]⟩
    · have hpl : p ≤ 1048576 := by rw [hp]; exact pow_range k (by omega)
      by_cases ha : a = p
      · have HP : Hid (PageOk a) := ⟨k, by rw [ha, hp], h1, by omega⟩
        clear h3 hp
        subst ha
        by_cases hb1 : 1 ≤ b
        · by_cases hb2 : b ≤ 1024
          · go_wp2
            go_ret
            exact ⟨true, rfl, rfl, by simp [RightOk, HP.out, hb1, hb2]⟩
          · go_wp2
            go_ret
            exact .inl ⟨rfl, rfl, ⟨fun h => (by cases h), fun h => absurd h.2.2 (by omega)⟩⟩
        · go_wp2
          go_ret
          exact .inl ⟨rfl, rfl, ⟨fun h => (by cases h), fun h => absurd h.2.1 (by omega)⟩⟩
      · have H3 : Hid (∀ j, 12 ≤ j → j < k + 1 → a ≠ ((2 ^ j : Nat) : Int)) := by
          intro j e1 e2
          rcases Nat.lt_or_ge j k with h | h
          · exact h3 j e1 h
          · have : j = k := by omega
            rw [this, ← hp]; exact ha
        have hd : decide ((p : Int) = a) = false := by simp; omega
        clear h3 hp
        go_wp2
        go_roundw
        case rel => exact ⟨k + 1, by omega, by omega, by rw [hps.out]; go_num, by trivial, H3.out⟩
        case measure => simp [intOf]; omega

theorem right_yes (a b : Int) (h : PageOk a ∧ 1 ≤ b ∧ b ≤ 1024) (w : World) : Calls Try.prog 97 #[.int .i64 a, .int .i64 b] w fun e w' => e = .returned (.bool true) ∧ w = w' :=
  (right_any a b w).mono (by rintro e w' ⟨r, rfl, rfl, h2⟩; rw [show r = true from h2.2 h]; exact ⟨rfl, rfl⟩)
theorem right_no (a b : Int) (h : ¬ (PageOk a ∧ 1 ≤ b ∧ b ≤ 1024)) (w : World) : Calls Try.prog 97 #[.int .i64 a, .int .i64 b] w fun e w' => e = .returned (.bool false) ∧ w = w' :=
  (right_any a b w).mono (by
    rintro e w' ⟨r, rfl, rfl, h2⟩
    cases r
    · exact ⟨rfl, rfl⟩
    · exact absurd (h2.1 rfl) h)

/-- The document's search for the next size, and its sizes. -/
theorem rsizes_any {F L s0 il : Nat} (hG : GoodF F L s0) (hL : L = limOf il) (hil : il ≤ 1048576) (a b : Int) (w : World) : Calls Try.prog 42 #[refV a b F s0 il] w fun e w' => w.grownBy w' none ∧
    ∃ n v, n ≤ 63 ∧ e = .returned v ∧ w'.ownsRow w.heap.size 3 1 v n (ints (szL F L s0 n)) ∧ ((n ≤ 62 ∧ Cls F L s0 n) ∨ (n = 63 ∧ ∀ j, j < 62 → chain F L s0 j < L)) := by
  have hcf := chain_facts hG
  have f0 := hG.f0
  have f1 := hG.f1
  have l1 := hG.l1
  have s64 := hG.s64
  have hl0 := limOf_ge il
  have hl8 := limOf_8 il
  rw [← hL] at hl0 hl8
  clear hL
  unfold refV
  go_enter Try.func42, Try.ntmps42
  go_wp2
  go_loopw [3] (fun v wr => ∃ (x : Nat), v = .int .i64 x ∧ il ≤ x ∧ x ≤ L ∧ wr = w.alloc (Obj.cells #[Value.int IntKind.i64 a, Value.int IntKind.i64 b, Value.int IntKind.i64 ↑F, Value.int IntKind.i64 ↑s0, Value.int IntKind.i64 ↑il] 31)) (fun v _ => L - (intOf v).toNat)
  case atStart => exact ⟨il, rfl, by omega, by omega, rfl⟩
  case round =>
    obtain ⟨x, rfl, hx1, hx2, rfl⟩ := hrel
    have e0 : (x : Int).tmod 8 = ((x % 8 : Nat) : Int) := by rw [Int.tmod_eq_emod_of_nonneg (by omega)]; omega
    by_cases hx : x % 8 = 0
    · have hxL : x = L := by omega
      rw [hx] at e0
      subst hxL
      have hbx : Box ((w.alloc (Obj.cells #[Value.int IntKind.i64 a, Value.int IntKind.i64 b, Value.int IntKind.i64 ↑F, Value.int IntKind.i64 ↑s0, Value.int IntKind.i64 ↑il] 31)).alloc (Obj.cells #[Value.int IntKind.i64 ↑s0] 3)) 31 w.heap.size #[Value.int IntKind.i64 a, Value.int IntKind.i64 b, Value.int IntKind.i64 ↑F, Value.int IntKind.i64 ↑s0, Value.int IntKind.i64 ↑il] := (Box.new w 31 _).kept (World.grownBy_alloc _ _ none) (by simp)
      have hsz0 : w.heap.size + 1 < ((w.alloc (Obj.cells #[Value.int IntKind.i64 a, Value.int IntKind.i64 b, Value.int IntKind.i64 ↑F, Value.int IntKind.i64 ↑s0, Value.int IntKind.i64 ↑il] 31)).alloc (Obj.cells #[Value.int IntKind.i64 ↑s0] 3)).heap.size := by simp
      have HG : Hid (∀ s, s % 8 = 0 → 64 ≤ s → s + 8 ≤ (s * F + 799) / 800 * 8) := fun s h1 h2 => up_first hG s h1 h2
      have e9 : (x : Int).tmod 8 = 0 := e0
      clear e0 hx hl8
      go_wp2
      go_loopw [4] (fun v wr => ∃ (k : Nat), k < 63 ∧ (∀ j, j < k → chain F x s0 j < x) ∧ wr.ownsRow (w.heap.size + 1) 3 1 v (k + 1) (ints (szL F x s0 (k + 1))) ∧ w.grownBy wr none ∧ w.heap.size + 1 < wr.heap.size ∧ Box wr 31 w.heap.size #[Value.int IntKind.i64 a, Value.int IntKind.i64 b, Value.int IntKind.i64 ↑F, Value.int IntKind.i64 ↑s0, Value.int IntKind.i64 ↑il]) (fun v _ => match v with | .slice _ n _ => 63 - n | _ => 0)
      case atStart =>
        refine ⟨0, by omega, fun j h => by omega, ?_, gb_alloc (gb_alloc (gb_refl _ _) _) _, by simp, hbx⟩
        refine ⟨by simp [ints, szL], .inr ⟨w.heap.size + 1, 1, #[.int .i64 s0], rfl, Nat.le_refl _, heap_alloc2_new w _ _, Nat.le_refl _, by unfold maxLen; omega, rfl, by simp [ints, szL, chain]⟩⟩
      case round =>
        obtain ⟨k, hk, hlt, hrow, hF, hsz, hb⟩ := hrel
        obtain ⟨ao, cp, rfl, h1, h2, h3, h4⟩ := row_shape hrow
        obtain ⟨gg, rfl⟩ := h4 (by omega)
        have hgg := hrow.lt gg rfl
        have hc := row_cell hrow k (.int .i64 (chain F x s0 k)) (ints_get _ _ _ (szL_get _ _ _ _ _ (by omega)))
        have hc2 := hb.cell 2
        simp at hc2
        obtain ⟨c8, cs0, cL⟩ := hcf k
        obtain ⟨s, hs⟩ : ∃ s, s = chain F x s0 k := ⟨_, rfl⟩
        have HS : Hid (s = chain F x s0 k) := hs
        rw [← hs] at hc c8 cs0 cL
        by_cases hl : s < x
        · have HJ : Hid (∀ j, j < k + 1 → chain F x s0 j < x) := by
            intro j hj
            rcases Nat.lt_or_ge j k with h | h
            · exact hlt j h
            · have : j = k := by omega
              rw [this, ← hs]; exact hl
          by_cases hk2 : k = 62
          · subst hk2
            clear hcf hlt hs
            go_wp2
            go_ret
            exact ⟨hF, 63, _, by omega, rfl, row_base hrow (by omega), .inr ⟨rfl, fun j hj => HJ.out j (by omega)⟩⟩
          · have hsF : s * F ≤ 1048576 * 400 := Nat.mul_le_mul (by omega) f1
            obtain ⟨p, hp⟩ : ∃ p, p = s * F := ⟨_, rfl⟩
            have hpi : (s : Int) * F = p := by rw [hp]; simp
            obtain ⟨r, hr⟩ : ∃ r, r = (p + 799) / 800 * 8 := ⟨_, rfl⟩
            have hr1 : r ≤ 10000000 := by rw [hr, hp]; omega
            have hr8 : s + 8 ≤ r := by rw [hr, hp]; exact HG.out s c8 (by omega)
            have hr9 : r % 8 = 0 := by omega
            have HR : Hid (r = (p + 799) / 800 * 8) := hr
            rw [← hp] at hsF
            have HN : Hid (chain F x s0 (k + 1) = min x r) := by
              show _ = _
              rw [hr, hp, hs]; rfl
            clear hcf hlt hs hp hr
            have hk3 : (k : Int) + 1 ≤ 62 := by omega
            go_wp2
            go_loopw [5] (fun v wq => ∃ (n : Nat), v = .int .i64 n ∧ s + 8 ≤ n ∧ n ≤ r ∧ n % 8 = 0 ∧ ∃ qq, wq = wr.drewN qq) (fun v _ => r - (intOf v).toNat)
            case atStart => exact ⟨s + 8, by go_num, by omega, by omega, by omega, 0, rfl⟩
            case round =>
              obtain ⟨n, rfl, hn1, hn2, hn3, qq, rfl⟩ := hrel
              by_cases hn : 100 * n < p
              · have hn4 : n + 8 ≤ r := by have := HR.out; omega
                have hd : decide (100 * (n : Int) < p) = true := by simp; omega
                have hdi : 100 * (n : Int) < p := by omega
                go_wp2
                go_quiet (fail)
                go_wp2
                go_roundw
                case rel => exact ⟨n + 8, by go_num, by omega, by omega, by omega, _, rfl⟩
                case measure => simp [intOf]; omega
              · have hnr : n = r := by have := HR.out; omega
                have hd : decide (100 * (n : Int) < p) = false := by simp; omega
                have hdi : ¬ (100 * (n : Int) < p) := by omega
                subst hnr
                have fin : ∀ (y : Nat), y = min x n → ∀ g1 cap1 w1, World.ownsRow w1 (w.heap.size + 1) 3 1 (.slice (some ⟨g1, 0, none⟩) (k + 1 + 1) cap1) (k + 1 + 1) (ints (szL F x s0 (k + 1)) ++ [.int .i64 y]) → wr.grownBy w1 (some gg) →
                    ∃ k', k' < 63 ∧ (∀ j, j < k' → chain F x s0 j < x) ∧ w1.ownsRow (w.heap.size + 1) 3 1 (.slice (some ⟨g1, 0, none⟩) (k + 1 + 1) cap1) (k' + 1) (ints (szL F x s0 (k' + 1))) ∧ w.grownBy w1 none ∧ w.heap.size + 1 < w1.heap.size ∧ Box w1 31 w.heap.size #[Value.int IntKind.i64 a, Value.int IntKind.i64 b, Value.int IntKind.i64 ↑F, Value.int IntKind.i64 ↑s0, Value.int IntKind.i64 ↑il] := by
                  intro y hy g1 cap1 w1 ho hg
                  refine ⟨k + 1, by omega, HJ.out, ?_, gb_mine hF hg (by omega), Nat.lt_of_lt_of_le hsz hg.size, hb.kept hg (by simp; omega)⟩
                  rw [szL_succ, HN.out, ← hy, ints_snoc]
                  exact ho
                have FIN : Hid _ := fin
                clear fin
                go_wp2
                go_quiet (fail)
                rename_i nq
                have hgW : wr.grownBy ((wr.drewN qq).drewN nq) none := gb_drewN (gb_drewN (gb_refl _ none) _) _
                generalize (wr.drewN qq).drewN nq = W at *
                have hrow2 : World.ownsRow W (w.heap.size + 1) 3 1 (.slice (some ⟨gg, 0, none⟩) (k + 1) cp) (k + 1) (ints (szL F x s0 (k + 1))) := row_kept hrow hgW (by simp)
                have hszW := hgW.size
                by_cases hm : x < n
                · have hm1 : (x : Int) < n := by omega
                  go_wp2_with (at_builtin; go_must (refine push3 rfl _ _ rfl (w.heap.size + 1) _ (k + 1) _ (by rfl) hrow2 _ (by rfl) (by omega) (by omega) ?_))
                  intro g1 cap1 w1 ho hg hat
                  go_wp2
                  go_roundw
                  case rel => exact FIN.out x (by omega) _ _ _ ho (gb_trans (gb_none _ hgW) hg)
                  case measure => simp; omega
                · have hm1 : ¬ ((x : Int) < n) := by omega
                  go_wp2_with (at_builtin; go_must (refine push3 rfl _ _ rfl (w.heap.size + 1) _ (k + 1) _ (by rfl) hrow2 _ (by rfl) (by omega) (by omega) ?_))
                  intro g1 cap1 w1 ho hg hat
                  go_wp2
                  go_roundw
                  case rel => exact FIN.out n (by omega) _ _ _ ho (gb_trans (gb_none _ hgW) hg)
                  case measure => simp; omega
        · have HC : Hid (Cls F x s0 (k + 1)) := ⟨by omega, by simp [← hs]; omega, fun j hj => hlt j (by omega)⟩
          have HJ : Hid (∀ j, j < k → chain F x s0 j < x) := hlt
          clear hcf hlt hs
          go_wp2
          go_ret
          refine ⟨hF, k + 1, _, by omega, rfl, row_base hrow (by omega), ?_⟩
          by_cases hk2 : k = 62
          · exact .inr ⟨by omega, fun j hj => HJ.out j (by omega)⟩
          · exact .inl ⟨by omega, HC.out⟩
    · have hd : decide (((x % 8 : Nat) : Int) = 0) = false := by simp; omega
      have hne : ((x % 8 : Nat) : Int) ≠ 0 := by omega
      have hxl : x + 1 ≤ L := by omega
      generalize x % 8 = y at *
      go_wp2
      go_roundw
      case rel => exact ⟨x + 1, by go_num, by omega, by omega, by trivial⟩
      case measure => simp [intOf]; omega

end Go.Proofs.Ytoaaaeefcipdcaa
