import Derived.Test.YtjkdflnnpdionaaGreatMa
import Derived.WalkMore
/-
  The program's sizes.
-/
namespace Go.Proofs.YtjkdflnnpdionaaGreat
open Go.RowKit
set_option linter.unusedVariables false

def cfgV (a b c d e f g : Int) : Value := .agg #[.int .i64 a, .int .i64 b, .int .i64 c, .int .i64 d, .int .i64 e, .int .i64 f, .int .i64 g]

theorem upTo_8 (n : Nat) (hn : n ≤ 1000000000000) (q : Nat) (hq : Hid (q = (n + 7) / 8)) (w : World) : Calls Tryz.prog 174 #[.int .i64 n, .int .i64 8] w fun e w' => e = .returned (.int .i64 q) ∧ w = w' := by
  have e1 : ((n : Int) + 8 - 1).tdiv 8 = (q : Int) := by
    rw [Int.tdiv_eq_ediv_of_nonneg (by omega)]
    have := hq.out
    omega
  have hq : q ≤ 1000000001000 := by have := hq.out; omega
  go_enter Tryz.func174, Tryz.ntmps174
  go_wp2
  go_ret
  exact ⟨rfl, rfl⟩

theorem upTo_800 (n : Nat) (hn : n ≤ 1000000000000) (q : Nat) (hq : Hid (q = (n + 799) / 800)) (w : World) : Calls Tryz.prog 174 #[.int .i64 n, .int .i64 800] w fun e w' => e = .returned (.int .i64 q) ∧ w = w' := by
  have e1 : ((n : Int) + 800 - 1).tdiv 800 = (q : Int) := by
    rw [Int.tdiv_eq_ediv_of_nonneg (by omega)]
    have := hq.out
    omega
  have hq : q ≤ 1000000001000 := by have := hq.out; omega
  go_enter Tryz.func174, Tryz.ntmps174
  go_wp2
  go_ret
  exact ⟨rfl, rfl⟩

set_option maxHeartbeats 1000000 in
theorem sizes_any {F L s0 il : Nat} (hG : GoodF F L s0) (hL : L = limOf il) (hil : il ≤ 1048576) (a b f g : Int) (w : World) : Calls Tryz.prog 119 #[cfgV a b F s0 il f g] w fun e w' => w.grownBy w' none ∧
    ((∃ n v, n ≤ 62 ∧ Cls F L s0 n ∧ e = .returned (.tuple #[v, .bool true]) ∧ w'.ownsRow w.heap.size 3 1 v n (ints (szL F L s0 n))) ∨ ((∀ j, j < 62 → chain F L s0 j < L) ∧ e = .returned (.tuple #[.slice none 0 0, .bool false]))) := by
  have hcf := chain_facts hG
  have f0 := hG.f0
  have f1 := hG.f1
  have l1 := hG.l1
  have HL : Hid (L = limOf il) := hL
  obtain ⟨q, hq⟩ : ∃ q, q = (il + 7) / 8 := ⟨_, rfl⟩
  have HQ : Hid (q = (il + 7) / 8) := hq
  have hLi : q * 8 = L := by rw [hL, hq]; simp only [limOf]
  have hLz : (q : Int) * 8 = L := by omega
  clear hL hq
  unfold cfgV
  go_enter Tryz.func119, Tryz.ntmps119
  go_wp2
  go_step3
  go_wp2_with (first | (go_at_call 174; go_must (refine (upTo_8 il (by omega) q HQ _).mono ?_); rintro e w' ⟨rfl, rfl⟩) | fail)
  go_step3
  go_wp2
  have hbx : Box ((w.alloc (Obj.cells #[Value.int IntKind.i64 a, Value.int IntKind.i64 b, Value.int IntKind.i64 ↑F, Value.int IntKind.i64 ↑s0, Value.int IntKind.i64 ↑il, Value.int IntKind.i64 f, Value.int IntKind.i64 g] 105)).alloc (Obj.cells #[Value.int IntKind.i64 ↑s0] 3)) 105 w.heap.size #[Value.int IntKind.i64 a, Value.int IntKind.i64 b, Value.int IntKind.i64 ↑F, Value.int IntKind.i64 ↑s0, Value.int IntKind.i64 ↑il, Value.int IntKind.i64 f, Value.int IntKind.i64 g] := (Box.new w 105 _).kept (World.grownBy_alloc _ _ none) (by simp)
  go_loopw [5] (fun v wr => ∃ (k : Nat), k < 62 ∧ (∀ j, j < k → chain F L s0 j < L) ∧ wr.ownsRow (w.heap.size + 1) 3 1 v (k + 1) (ints (szL F L s0 (k + 1))) ∧ w.grownBy wr none ∧ w.heap.size + 1 < wr.heap.size ∧ Box wr 105 w.heap.size #[Value.int IntKind.i64 a, Value.int IntKind.i64 b, Value.int IntKind.i64 ↑F, Value.int IntKind.i64 ↑s0, Value.int IntKind.i64 ↑il, Value.int IntKind.i64 f, Value.int IntKind.i64 g]) (fun v _ => match v with | .slice _ n _ => 62 - n | _ => 0)
  case atStart =>
    refine ⟨0, by omega, fun j h => by omega, ?_, gb_alloc (gb_alloc (gb_refl _ _) _) _, by simp, hbx⟩
    refine ⟨by simp [ints, szL], .inr ⟨w.heap.size + 1, 1, #[.int .i64 s0], rfl, Nat.le_refl _, heap_alloc2_new w _ _, Nat.le_refl _, by unfold maxLen; omega, rfl, by simp [ints, szL, chain]⟩⟩
  case round =>
    obtain ⟨k, hk, hlt, hrow, hF, hsz, hb⟩ := hrel
    obtain ⟨ao, cp, rfl, h1, h2, h3, h4⟩ := row_shape hrow
    obtain ⟨gg, rfl⟩ := h4 (by omega)
    have hgg := hrow.lt gg rfl
    have hc := row_cell hrow k (.int .i64 (chain F L s0 k)) (ints_get _ _ _ (szL_get _ _ _ _ _ (by omega)))
    have hc2 := hb.cell 2
    simp at hc2
    obtain ⟨c8, cs0, cL⟩ := hcf k
    obtain ⟨s, hs⟩ : ∃ s, s = chain F L s0 k := ⟨_, rfl⟩
    have HS : Hid (s = chain F L s0 k) := hs
    rw [← hs] at hc c8 cs0 cL
    by_cases hl : s < L
    · by_cases hk2 : k = 61
      · have HJ : Hid (∀ j, j < 62 → chain F L s0 j < L) := by
          intro j hj
          rcases Nat.lt_or_ge j k with h | h
          · exact hlt j h
          · have : j = k := by omega
            rw [this, ← hs]; exact hl
        subst hk2
        clear hcf hlt hs
        go_wp2
        try rw [Exit.noGoto_ret]
        go_ret2
        exact ⟨hF, .inr ⟨HJ.out, rfl⟩⟩
      · have hd1 : decide ((k : Int) + 1 = 62) = false := by simp; omega
        have hsF : s * F ≤ 1048576 * 400 := Nat.mul_le_mul (by omega) f1
        obtain ⟨p, hp⟩ : ∃ p, p = s * F := ⟨_, rfl⟩
        have hpi : (s : Int) * F = p := by rw [hp]; simp
        rw [← hp] at hsF
        obtain ⟨r, hr⟩ : ∃ r, r = (p + 799) / 800 := ⟨_, rfl⟩
        have HR : Hid (r = (p + 799) / 800) := hr
        have hr1 : r ≤ 1000000 := by omega
        have HN : Hid (chain F L s0 (k + 1) = min L (r * 8)) := by
          show _ = _
          rw [hr, hp, hs]; rfl
        have HJ : Hid (∀ j, j < k + 1 → chain F L s0 j < L) := by
          intro j hj
          rcases Nat.lt_or_ge j k with h | h
          · exact hlt j h
          · have : j = k := by omega
            rw [this, ← hs]; exact hl
        clear hcf hlt hs hp hr
        have fin : ∀ (x : Nat), x = min L (r * 8) → ∀ g1 cap1 w1, World.ownsRow w1 (w.heap.size + 1) 3 1 (.slice (some ⟨g1, 0, none⟩) (k + 1 + 1) cap1) (k + 1 + 1) (ints (szL F L s0 (k + 1)) ++ [.int .i64 x]) → wr.grownBy w1 (some gg) →
            ∃ k', k' < 62 ∧ (∀ j, j < k' → chain F L s0 j < L) ∧ w1.ownsRow (w.heap.size + 1) 3 1 (.slice (some ⟨g1, 0, none⟩) (k + 1 + 1) cap1) (k' + 1) (ints (szL F L s0 (k' + 1))) ∧ w.grownBy w1 none ∧ w.heap.size + 1 < w1.heap.size ∧ Box w1 105 w.heap.size #[Value.int IntKind.i64 a, Value.int IntKind.i64 b, Value.int IntKind.i64 ↑F, Value.int IntKind.i64 ↑s0, Value.int IntKind.i64 ↑il, Value.int IntKind.i64 f, Value.int IntKind.i64 g] := by
          intro x hx g1 cap1 w1 ho hg
          refine ⟨k + 1, by omega, HJ.out, ?_, gb_mine hF hg (by omega), Nat.lt_of_lt_of_le hsz hg.size, hb.kept hg (by simp; omega)⟩
          rw [szL_succ, HN.out, ← hx, ints_snoc]
          exact ho
        have FIN : Hid _ := fin
        clear fin
        rcases Nat.lt_or_ge (r * 8) L with hm | hm
        · have hm1 : (r : Int) * 8 < L := by omega
          go_wp2_with (first | (go_at_call 174; go_must (refine (upTo_800 p (by omega) r HR _).mono ?_); rintro e w' ⟨rfl, rfl⟩) | (at_builtin; go_must (refine push3 rfl _ _ rfl (w.heap.size + 1) _ (k + 1) _ (by rfl) hrow _ (by rfl) (by omega) (by omega) ?_)))
          intro g1 cap1 w1 ho hg hat
          go_wp2
          go_roundw
          case rel => exact FIN.out (r * 8) (by omega) _ _ _ ho hg
          case measure => simp; omega
        · have hm1 : (L : Int) ≤ r * 8 := by omega
          go_wp2_with (first | (go_at_call 174; go_must (refine (upTo_800 p (by omega) r HR _).mono ?_); rintro e w' ⟨rfl, rfl⟩) | (at_builtin; go_must (refine push3 rfl _ _ rfl (w.heap.size + 1) _ (k + 1) _ (by rfl) hrow _ (by rfl) (by omega) (by omega) ?_)))
          intro g1 cap1 w1 ho hg hat
          go_wp2
          go_roundw
          case rel => exact FIN.out L (by omega) _ _ _ ho hg
          case measure => simp; omega
    · have HC : Hid (Cls F L s0 (k + 1)) := ⟨by omega, by simp [← hs]; omega, fun j hj => hlt j (by omega)⟩
      clear hcf hlt hs
      go_wp2
      try rw [Exit.noGoto_ret]
      go_ret2
      exact ⟨hF, .inl ⟨k + 1, _, by omega, HC.out, rfl, row_base hrow (by omega)⟩⟩

end Go.Proofs.YtjkdflnnpdionaaGreat
/-
  bits.OnesCount64 of small numbers: one bit just where the number is a power of two.
-/
namespace Go.Proofs.YtjkdflnnpdionaaGreat
open Go.RowKit
set_option linter.unusedVariables false

def e1 (b : Nat) : Nat := (b / 2 &&& 85) + (b &&& 85)
def e2 (b : Nat) : Nat := (b / 4 &&& 51) + (b &&& 51)
def e3 (b : Nat) : Nat := (b / 16 + b) % 16
def pb (b : Nat) : Nat := e3 (e2 (e1 b))

theorem and_split (x y : Nat) : x &&& y = (x % 256 &&& y % 256) + 256 * (x / 256 &&& y / 256) := by
  have h1 : (x &&& y) % 2 ^ 8 = (x % 2 ^ 8) &&& (y % 2 ^ 8) := Nat.and_mod_two_pow
  have h2 : (x &&& y) / 2 ^ 8 = x / 2 ^ 8 &&& y / 2 ^ 8 := Nat.and_div_two_pow
  have h3 := Nat.mod_add_div (x &&& y) (2 ^ 8)
  rw [h1, h2] at h3
  exact h3.symm
theorem d1 : ∀ (b : Fin 256) (t : Fin 2), (b.val / 2 + 128 * t.val) &&& 85 = b.val / 2 &&& 85 := by decide +kernel
theorem d2 : ∀ (b : Fin 256) (t : Fin 4), (b.val / 4 + 64 * t.val) &&& 51 = b.val / 4 &&& 51 := by decide +kernel
theorem e1_lt : ∀ b : Fin 256, e1 b.val < 256 ∧ e2 (e1 b.val) < 256 ∧ e2 (e1 b.val) % 16 ≤ 4 ∧ e2 (e1 b.val) / 16 ≤ 4 ∧ pb b.val ≤ 8 := by decide +kernel
theorem pb_zero : ∀ b : Fin 256, pb b.val = 0 → b.val = 0 := by decide +kernel
theorem pb_one : ∀ b : Fin 256, pb b.val = 1 → b.val = 1 ∨ b.val = 2 ∨ b.val = 4 ∨ b.val = 8 ∨ b.val = 16 ∨ b.val = 32 ∨ b.val = 64 ∨ b.val = 128 := by decide +kernel

def S1 (M a : Nat) : Nat := (a / 2 &&& M) + (a &&& M)
def S2 (M a : Nat) : Nat := (a / 4 &&& M) + (a &&& M)
theorem S1_step (M a : Nat) (hM : M % 256 = 85) : S1 M a = e1 (a % 256) + 256 * S1 (M / 256) (a / 256) := by
  have h := d1 ⟨a % 256, by omega⟩ ⟨a / 256 % 2, by omega⟩
  simp only at h
  have e : a / 2 % 256 = a % 256 / 2 + 128 * (a / 256 % 2) := by omega
  unfold S1 e1
  rw [and_split (a / 2) M, and_split a M, hM, e, h, show a / 2 / 256 = a / 256 / 2 by omega]
  omega
theorem S2_step (M a : Nat) (hM : M % 256 = 51) : S2 M a = e2 (a % 256) + 256 * S2 (M / 256) (a / 256) := by
  have h := d2 ⟨a % 256, by omega⟩ ⟨a / 256 % 4, by omega⟩
  simp only at h
  have e : a / 4 % 256 = a % 256 / 4 + 64 * (a / 256 % 4) := by omega
  unfold S2 e2
  rw [and_split (a / 4) M, and_split a M, hM, e, h, show a / 4 / 256 = a / 256 / 4 by omega]
  omega
theorem S1_zero (M : Nat) : S1 M 0 = 0 := by simp [S1]
theorem S2_zero (M : Nat) : S2 M 0 = 0 := by simp [S2]
theorem S1_three (a : Nat) (ha : a < 16777216) : S1 6148914691236517205 a = e1 (a % 256) + 256 * (e1 (a / 256 % 256) + 256 * e1 (a / 65536)) := by
  rw [S1_step _ a (by decide), S1_step _ (a / 256) (by decide), S1_step _ (a / 256 / 256) (by decide)]
  rw [show a / 256 / 256 / 256 = 0 by omega, S1_zero, show a / 256 / 256 % 256 = a / 65536 by omega]
  omega
theorem S2_three (x0 x1 x2 : Nat) (h0 : x0 < 256) (h1 : x1 < 256) (h2 : x2 < 256) : S2 3689348814741910323 (x0 + 256 * (x1 + 256 * x2)) = e2 x0 + 256 * (e2 x1 + 256 * e2 x2) := by
  rw [S2_step _ _ (by decide), S2_step _ _ (by decide), S2_step _ _ (by decide)]
  rw [show (x0 + 256 * (x1 + 256 * x2)) / 256 / 256 / 256 = 0 by omega, S2_zero]
  rw [show (x0 + 256 * (x1 + 256 * x2)) % 256 = x0 by omega, show (x0 + 256 * (x1 + 256 * x2)) / 256 % 256 = x1 by omega, show (x0 + 256 * (x1 + 256 * x2)) / 256 / 256 % 256 = x2 by omega]
  omega
theorem d3 : ∀ b : Fin 256, b.val &&& 15 = b.val % 16 := by decide +kernel
theorem e3_ul (u l : Nat) (hu : u ≤ 4) (hl : l ≤ 4) : e3 (16 * u + l) = u + l := by unfold e3; omega
theorem S3_three (y0 y1 y2 : Nat) (h0 : y0 % 16 ≤ 4 ∧ y0 / 16 ≤ 4) (h1 : y1 % 16 ≤ 4 ∧ y1 / 16 ≤ 4) (h2 : y2 % 16 ≤ 4 ∧ y2 / 16 ≤ 4) :
    ((y0 + 256 * (y1 + 256 * y2)) / 16 + (y0 + 256 * (y1 + 256 * y2))) &&& 1085102592571150095 = e3 y0 + 256 * (e3 y1 + 256 * e3 y2) := by
  obtain ⟨u0, l0, rfl, g0, k0⟩ : ∃ u l, y0 = 16 * u + l ∧ u ≤ 4 ∧ l ≤ 4 := ⟨y0 / 16, y0 % 16, by omega, h0.2, h0.1⟩
  obtain ⟨u1, l1, rfl, g1, k1⟩ : ∃ u l, y1 = 16 * u + l ∧ u ≤ 4 ∧ l ≤ 4 := ⟨y1 / 16, y1 % 16, by omega, h1.2, h1.1⟩
  obtain ⟨u2, l2, rfl, g2, k2⟩ : ∃ u l, y2 = 16 * u + l ∧ u ≤ 4 ∧ l ≤ 4 := ⟨y2 / 16, y2 % 16, by omega, h2.2, h2.1⟩
  clear h0 h1 h2
  have hd : (16 * u0 + l0 + 256 * (16 * u1 + l1 + 256 * (16 * u2 + l2))) / 16 = u0 + 16 * (16 * u1 + l1) + 4096 * (16 * u2 + l2) := by omega
  rw [hd]
  obtain ⟨z, hz⟩ : ∃ z, z = u0 + 16 * (16 * u1 + l1) + 4096 * (16 * u2 + l2) + (16 * u0 + l0 + 256 * (16 * u1 + l1 + 256 * (16 * u2 + l2))) := ⟨_, rfl⟩
  rw [← hz]
  have z0 : z % 256 = u0 + 16 * l1 + 16 * u0 + l0 := by omega
  have z1 : z / 256 % 256 = u1 + 16 * l2 + 16 * u1 + l1 := by omega
  have z2 : z / 256 / 256 % 256 = u2 + 16 * u2 + l2 := by omega
  have z3 : z / 256 / 256 / 256 = 0 := by omega
  have a0 := d3 ⟨z % 256, by omega⟩
  have a1 := d3 ⟨z / 256 % 256, by omega⟩
  have a2 := d3 ⟨z / 256 / 256 % 256, by omega⟩
  simp only at a0 a1 a2
  rw [and_split z, and_split (z / 256), and_split (z / 256 / 256)]
  rw [z3, Nat.zero_and]
  rw [show 1085102592571150095 % 256 = 15 by decide, a0, a1, a2, z0, z1, z2]
  rw [e3_ul u0 l0 g0 k0, e3_ul u1 l1 g1 k1, e3_ul u2 l2 g2 k2]
  rw [show (u0 + 16 * l1 + 16 * u0 + l0) % 16 = u0 + l0 by omega, show (u1 + 16 * l2 + 16 * u1 + l1) % 16 = u1 + l1 by omega, show (u2 + 16 * u2 + l2) % 16 = u2 + l2 by omega]
  simp
theorem fold_three (p0 p1 p2 : Nat) (h0 : p0 ≤ 8) (h1 : p1 ≤ 8) (h2 : p2 ≤ 8) (x : Nat) (hx : x = p0 + 256 * (p1 + 256 * p2)) :
    ((x + x / 256) + (x + x / 256) / 65536) % 128 = p0 + p1 + p2 ∧ x + x / 256 < 16777216 ∧ x < 16777216 ∧ (x + x / 256) + (x + x / 256) / 65536 < 16777216 := by
  have a1 : x / 256 = p1 + 256 * p2 := by omega
  rw [a1]
  have a2 : (x + (p1 + 256 * p2)) / 65536 = p2 := by omega
  rw [a2]
  omega

theorem and_u64 (a b : Nat) (ha : a < 18446744073709551616) (hb : b < 18446744073709551616) : bits BinOp.and IntKind.u64 (a : Int) (b : Int) = ((a &&& b : Nat) : Int) := u64_and_nat a b ha hb
theorem wrap_u64 (a : Nat) (ha : a < 18446744073709551616) : IntKind.u64.wrap (a : Int) = a := by
  have : IntKind.u64.wrap (a : Int) = (a : Int) % 18446744073709551616 := by simp [IntKind.wrap, IntKind.bits, IntKind.signed]
  rw [this]; omega
theorem and_le (a b : Nat) : a &&& b ≤ a := Nat.and_le_left

theorem ones1_nat (a : Nat) (ha : a < 16777216) : ones1 (a : Int) = ((S1 6148914691236517205 a : Nat) : Int) := by
  unfold ones1 S1
  have h1 := and_le (a / 2) 6148914691236517205
  have h2 := and_le a 6148914691236517205
  rw [show ((a : Int) / 2) = ((a / 2 : Nat) : Int) by omega]
  have k1 := and_u64 (a / 2) 6148914691236517205 (by omega) (by decide)
  have k2 := and_u64 a 6148914691236517205 (by omega) (by decide)
  rw [show ((6148914691236517205 : Nat) : Int) = 6148914691236517205 from rfl] at k1 k2
  rw [k1, k2, ← Int.natCast_add]
  exact wrap_u64 _ (by omega)
theorem ones2_nat (a : Nat) (ha : a < 16777216) : ones2 (a : Int) = ((S2 3689348814741910323 a : Nat) : Int) := by
  unfold ones2 S2
  have h1 := and_le (a / 4) 3689348814741910323
  have h2 := and_le a 3689348814741910323
  rw [show ((a : Int) / 4) = ((a / 4 : Nat) : Int) by omega]
  have k1 := and_u64 (a / 4) 3689348814741910323 (by omega) (by decide)
  have k2 := and_u64 a 3689348814741910323 (by omega) (by decide)
  rw [show ((3689348814741910323 : Nat) : Int) = 3689348814741910323 from rfl] at k1 k2
  rw [k1, k2, ← Int.natCast_add]
  exact wrap_u64 _ (by omega)
theorem ones3_nat (a : Nat) (ha : a < 16777216) : ones3 (a : Int) = ((((a / 16 + a) &&& 1085102592571150095 : Nat)) : Int) := by
  unfold ones3
  rw [show ((a : Int) / 16 + a) = ((a / 16 + a : Nat) : Int) by omega, wrap_u64 _ (by omega)]
  exact and_u64 (a / 16 + a) 1085102592571150095 (by omega) (by decide)
theorem ones_fold (x : Nat) (h0 : x < 16777216) (h1 : x + x / 256 < 16777216) (h2 : (x + x / 256) + (x + x / 256) / 65536 < 16777216) : ones6 (ones5 (ones4 (x : Int))) = (((x + x / 256) + (x + x / 256) / 65536 : Nat) : Int) := by
  have k4 : ones4 (x : Int) = ((x + x / 256 : Nat) : Int) := by
    unfold ones4
    rw [show ((x : Int) + (x : Int) / 256) = ((x + x / 256 : Nat) : Int) by omega, wrap_u64 _ (by omega)]
  have k5 : ∀ y : Nat, y < 16777216 → y + y / 65536 < 16777216 → ones5 (y : Int) = ((y + y / 65536 : Nat) : Int) := by
    intro y h3 h4
    unfold ones5
    rw [show ((y : Int) + (y : Int) / 65536) = ((y + y / 65536 : Nat) : Int) by omega, wrap_u64 _ (by omega)]
  have k6 : ∀ y : Nat, y < 16777216 → ones6 (y : Int) = (y : Int) := by
    intro y h3
    unfold ones6
    rw [show ((y : Int) + (y : Int) / 4294967296) = ((y : Nat) : Int) by omega, wrap_u64 _ (by omega)]
  rw [k4, k5 _ h1 h2, k6 _ h2]

theorem ones_three (a : Nat) (ha : a < 16777216) : ones3 (ones2 (ones1 (a : Int))) = ((pb (a % 256) + 256 * (pb (a / 256 % 256) + 256 * pb (a / 65536)) : Nat) : Int) := by
  have b0 := e1_lt ⟨a % 256, by omega⟩
  have b1 := e1_lt ⟨a / 256 % 256, by omega⟩
  have b2 := e1_lt ⟨a / 65536, by omega⟩
  simp only at b0 b1 b2
  rw [ones1_nat a ha, S1_three a ha]
  unfold pb at *
  generalize e1 (a % 256) = x0 at *
  generalize e1 (a / 256 % 256) = x1 at *
  generalize e1 (a / 65536) = x2 at *
  rw [ones2_nat _ (by omega), S2_three _ _ _ b0.1 b1.1 b2.1]
  generalize e2 x0 = y0 at *
  generalize e2 x1 = y1 at *
  generalize e2 x2 = y2 at *
  rw [ones3_nat _ (by omega), S3_three _ _ _ ⟨b0.2.2.1, b0.2.2.2.1⟩ ⟨b1.2.2.1, b1.2.2.2.1⟩ ⟨b2.2.2.1, b2.2.2.2.1⟩]
theorem mask127 (y : Nat) (h : y < 16777216) : bits BinOp.and IntKind.i64 (wrap64 (y : Int)) 127 = ((y % 128 : Nat) : Int) := by
  have hw : wrap64 (y : Int) = y := by unfold wrap64; omega
  rw [hw]
  have hm := mask_i64 7 (by omega) (y : Int) (by omega) (by omega)
  rw [show ((2 : Int) ^ 7 - 1) = 127 by decide, show ((2 : Int) ^ 7) = 128 by decide] at hm
  rw [hm]
  omega

/-- The bits of a small number, byte by byte. -/
theorem onesF_nat (a : Nat) (ha : a < 16777216) : onesF (a : Int) = ((pb (a % 256) + pb (a / 256 % 256) + pb (a / 65536) : Nat) : Int) := by
  have b0 := (e1_lt ⟨a % 256, by omega⟩).2.2.2.2
  have b1 := (e1_lt ⟨a / 256 % 256, by omega⟩).2.2.2.2
  have b2 := (e1_lt ⟨a / 65536, by omega⟩).2.2.2.2
  simp only at b0 b1 b2
  unfold onesF
  rw [ones_three a ha]
  generalize pb (a % 256) = p0 at *
  generalize pb (a / 256 % 256) = p1 at *
  generalize pb (a / 65536) = p2 at *
  obtain ⟨x, hx⟩ : ∃ x, x = p0 + 256 * (p1 + 256 * p2) := ⟨_, rfl⟩
  rw [← hx]
  have hf := fold_three p0 p1 p2 b0 b1 b2 x hx
  rw [ones_fold _ hf.2.2.1 hf.2.1 hf.2.2.2, mask127 _ hf.2.2.2, hf.1]

/-- A page's size: a power of two. -/
theorem page_pow (n : Int) (h : pageB n = true) : ∃ k, n = ((2 ^ k : Nat) : Int) ∧ 12 ≤ k ∧ k ≤ 20 := by
  unfold pageB at h
  simp only [Bool.and_eq_true, decide_eq_true_eq, beq_iff_eq] at h
  obtain ⟨⟨h1, h2⟩, h3⟩ := h
  obtain ⟨a, rfl⟩ := Int.eq_ofNat_of_zero_le (show 0 ≤ n by omega)
  rw [onesF_nat a (by omega)] at h3
  have c0 := pb_zero ⟨a % 256, by omega⟩
  have c1 := pb_zero ⟨a / 256 % 256, by omega⟩
  have c2 := pb_zero ⟨a / 65536, by omega⟩
  have o1 := pb_one ⟨a / 256 % 256, by omega⟩
  have o2 := pb_one ⟨a / 65536, by omega⟩
  have o0 := pb_one ⟨a % 256, by omega⟩
  simp only at c0 c1 c2 o1 o2 o0
  have hcases : (pb (a % 256) = 1 ∧ pb (a / 256 % 256) = 0 ∧ pb (a / 65536) = 0) ∨ (pb (a % 256) = 0 ∧ pb (a / 256 % 256) = 1 ∧ pb (a / 65536) = 0) ∨ (pb (a % 256) = 0 ∧ pb (a / 256 % 256) = 0 ∧ pb (a / 65536) = 1) := by omega
  have key : a = 4096 ∨ a = 8192 ∨ a = 16384 ∨ a = 32768 ∨ a = 65536 ∨ a = 131072 ∨ a = 262144 ∨ a = 524288 ∨ a = 1048576 := by
    rcases hcases with ⟨p, q, r⟩ | ⟨p, q, r⟩ | ⟨p, q, r⟩
    · have := o0 p; have := c1 q; have := c2 r; omega
    · have := c0 p; have := o1 q; have := c2 r; omega
    · have := c0 p; have := c1 q; have := o2 r; omega
  rcases key with rfl | rfl | rfl | rfl | rfl | rfl | rfl | rfl | rfl
  · exact ⟨12, rfl, by omega, by omega⟩
  · exact ⟨13, rfl, by omega, by omega⟩
  · exact ⟨14, rfl, by omega, by omega⟩
  · exact ⟨15, rfl, by omega, by omega⟩
  · exact ⟨16, rfl, by omega, by omega⟩
  · exact ⟨17, rfl, by omega, by omega⟩
  · exact ⟨18, rfl, by omega, by omega⟩
  · exact ⟨19, rfl, by omega, by omega⟩
  · exact ⟨20, rfl, by omega, by omega⟩

end Go.Proofs.YtjkdflnnpdionaaGreat
/-
  The document's sizes; what is refused.
-/
namespace Go.Proofs.YtjkdflnnpdionaaGreat
open Go.RowKit
set_option linter.unusedVariables false

def refV (a b c d e : Int) : Value := .agg #[.int .i64 a, .int .i64 b, .int .i64 c, .int .i64 d, .int .i64 e]
def refA (a b c d e : Int) : Array Value := #[.int .i64 a, .int .i64 b, .int .i64 c, .int .i64 d, .int .i64 e]

def PageOk (a : Int) : Prop := ∃ k : Nat, a = ((2 ^ k : Nat) : Int) ∧ 12 ≤ k ∧ k ≤ 20

theorem pow_range (k : Nat) (h : k ≤ 20) : 2 ^ k ≤ 1048576 := Nat.pow_le_pow_right (n := 2) (j := 20) (by omega) h

/-- What 'right' says. -/
def RightOk (a b : Int) (r : Bool) : Prop := r = true ↔ PageOk a ∧ 1 ≤ b ∧ b ≤ 1024

set_option maxHeartbeats 1000000 in
theorem right_any (a b : Int) (w : World) : Calls Tryz.prog 175 #[.int .i64 a, .int .i64 b] w fun e w' => ∃ r, e = .returned (.bool r) ∧ w = w' ∧ RightOk a b r := by
  go_enter Tryz.func175, Tryz.ntmps175
  go_wp2
  go_loopw [5] (fun v wr => ∃ (k : Nat), 12 ≤ k ∧ k ≤ 21 ∧ v = .int .i64 ((2 ^ k : Nat) : Int) ∧ w = wr ∧ ∀ j, 12 ≤ j → j < k → a ≠ ((2 ^ j : Nat) : Int)) (fun v _ => 4194304 - (intOf v).toNat)
  case atStart => exact ⟨12, by omega, by omega, rfl, rfl, fun j h1 h2 => by omega⟩
  case round =>
    obtain ⟨k, h1, h2, rfl, rfl, h3⟩ := hrel
    obtain ⟨p, hp⟩ : ∃ p, p = 2 ^ k := ⟨_, rfl⟩
    have hp0 : 0 < p := by rw [hp]; exact Nat.pow_pos (by omega)
    have hps : Hid (2 ^ (k + 1) = 2 * p) := by show _ = _; rw [hp, Nat.pow_succ]; omega
    rw [← hp]
    by_cases hk : k = 21
    · have hpv : p = 2097152 := by rw [hp, hk]
      have HN : Hid (¬ PageOk a) := by
        rintro ⟨j, e1, e2, e3⟩
        exact h3 j e2 (by omega) e1
      clear h3 hp
      subst hpv
      go_wp2
      go_ret
      exact ⟨false, rfl, rfl, by simp [RightOk, HN.out]⟩
    · have hpl : p ≤ 1048576 := by rw [hp]; exact pow_range k (by omega)
      by_cases ha : a = p
      · have HP : Hid (PageOk a) := ⟨k, by rw [ha, hp], h1, by omega⟩
        clear h3 hp
        subst ha
        by_cases hb1 : 1 ≤ b
        · by_cases hb2 : b ≤ 1024
          · go_wp2
            go_ret
            exact ⟨true, rfl, rfl, by simp [RightOk, HP.out, hb1, hb2]⟩
          · go_wp2
            go_ret
            exact .inl ⟨rfl, rfl, ⟨fun h => (by cases h), fun h => absurd h.2.2 (by omega)⟩⟩
        · go_wp2
          go_ret
          exact .inl ⟨rfl, rfl, ⟨fun h => (by cases h), fun h => absurd h.2.1 (by omega)⟩⟩
      · have H3 : Hid (∀ j, 12 ≤ j → j < k + 1 → a ≠ ((2 ^ j : Nat) : Int)) := by
          intro j e1 e2
          rcases Nat.lt_or_ge j k with h | h
          · exact h3 j e1 h
          · have : j = k := by omega
            rw [this, ← hp]; exact ha
        have hd : decide ((p : Int) = a) = false := by simp; omega
        clear h3 hp
        go_wp2
        go_roundw
        case rel => exact ⟨k + 1, by omega, by omega, by rw [hps.out]; go_num, by trivial, H3.out⟩
        case measure => simp [intOf]; omega

theorem right_yes (a b : Int) (h : PageOk a ∧ 1 ≤ b ∧ b ≤ 1024) (w : World) : Calls Tryz.prog 175 #[.int .i64 a, .int .i64 b] w fun e w' => e = .returned (.bool true) ∧ w = w' :=
  (right_any a b w).mono (by rintro e w' ⟨r, rfl, rfl, h2⟩; rw [show r = true from h2.2 h]; exact ⟨rfl, rfl⟩)
theorem right_no (a b : Int) (h : ¬ (PageOk a ∧ 1 ≤ b ∧ b ≤ 1024)) (w : World) : Calls Tryz.prog 175 #[.int .i64 a, .int .i64 b] w fun e w' => e = .returned (.bool false) ∧ w = w' :=
  (right_any a b w).mono (by
    rintro e w' ⟨r, rfl, rfl, h2⟩
    cases r
    · exact ⟨rfl, rfl⟩
    · exact absurd (h2.1 rfl) h)

/-- The document's search for the next size, and its sizes. -/
theorem rsizes_any {F L s0 il : Nat} (hG : GoodF F L s0) (hL : L = limOf il) (hil : il ≤ 1048576) (a b : Int) (w : World) : Calls Tryz.prog 121 #[refV a b F s0 il] w fun e w' => w.grownBy w' none ∧
    ∃ n v, n ≤ 63 ∧ e = .returned v ∧ w'.ownsRow w.heap.size 3 1 v n (ints (szL F L s0 n)) ∧ ((n ≤ 62 ∧ Cls F L s0 n) ∨ (n = 63 ∧ ∀ j, j < 62 → chain F L s0 j < L)) := by
  have hcf := chain_facts hG
  have f0 := hG.f0
  have f1 := hG.f1
  have l1 := hG.l1
  have s64 := hG.s64
  have hl0 := limOf_ge il
  have hl8 := limOf_8 il
  rw [← hL] at hl0 hl8
  clear hL
  unfold refV
  go_enter Tryz.func121, Tryz.ntmps121
  go_wp2
  go_loopw [3] (fun v wr => ∃ (x : Nat), v = .int .i64 x ∧ il ≤ x ∧ x ≤ L ∧ wr = w.alloc (Obj.cells #[Value.int IntKind.i64 a, Value.int IntKind.i64 b, Value.int IntKind.i64 ↑F, Value.int IntKind.i64 ↑s0, Value.int IntKind.i64 ↑il] 107)) (fun v _ => L - (intOf v).toNat)
  case atStart => exact ⟨il, rfl, by omega, by omega, rfl⟩
  case round =>
    obtain ⟨x, rfl, hx1, hx2, rfl⟩ := hrel
    have e0 : (x : Int).tmod 8 = ((x % 8 : Nat) : Int) := by rw [Int.tmod_eq_emod_of_nonneg (by omega)]; omega
    by_cases hx : x % 8 = 0
    · have hxL : x = L := by omega
      rw [hx] at e0
      subst hxL
      have hbx : Box ((w.alloc (Obj.cells #[Value.int IntKind.i64 a, Value.int IntKind.i64 b, Value.int IntKind.i64 ↑F, Value.int IntKind.i64 ↑s0, Value.int IntKind.i64 ↑il] 107)).alloc (Obj.cells #[Value.int IntKind.i64 ↑s0] 3)) 107 w.heap.size #[Value.int IntKind.i64 a, Value.int IntKind.i64 b, Value.int IntKind.i64 ↑F, Value.int IntKind.i64 ↑s0, Value.int IntKind.i64 ↑il] := (Box.new w 107 _).kept (World.grownBy_alloc _ _ none) (by simp)
      have hsz0 : w.heap.size + 1 < ((w.alloc (Obj.cells #[Value.int IntKind.i64 a, Value.int IntKind.i64 b, Value.int IntKind.i64 ↑F, Value.int IntKind.i64 ↑s0, Value.int IntKind.i64 ↑il] 107)).alloc (Obj.cells #[Value.int IntKind.i64 ↑s0] 3)).heap.size := by simp
      have HG : Hid (∀ s, s % 8 = 0 → 64 ≤ s → s + 8 ≤ (s * F + 799) / 800 * 8) := fun s h1 h2 => up_first hG s h1 h2
      have e9 : (x : Int).tmod 8 = 0 := e0
      clear e0 hx hl8
      go_wp2
      go_loopw [4] (fun v wr => ∃ (k : Nat), k < 63 ∧ (∀ j, j < k → chain F x s0 j < x) ∧ wr.ownsRow (w.heap.size + 1) 3 1 v (k + 1) (ints (szL F x s0 (k + 1))) ∧ w.grownBy wr none ∧ w.heap.size + 1 < wr.heap.size ∧ Box wr 107 w.heap.size #[Value.int IntKind.i64 a, Value.int IntKind.i64 b, Value.int IntKind.i64 ↑F, Value.int IntKind.i64 ↑s0, Value.int IntKind.i64 ↑il]) (fun v _ => match v with | .slice _ n _ => 63 - n | _ => 0)
      case atStart =>
        refine ⟨0, by omega, fun j h => by omega, ?_, gb_alloc (gb_alloc (gb_refl _ _) _) _, by simp, hbx⟩
        refine ⟨by simp [ints, szL], .inr ⟨w.heap.size + 1, 1, #[.int .i64 s0], rfl, Nat.le_refl _, heap_alloc2_new w _ _, Nat.le_refl _, by unfold maxLen; omega, rfl, by simp [ints, szL, chain]⟩⟩
      case round =>
        obtain ⟨k, hk, hlt, hrow, hF, hsz, hb⟩ := hrel
        obtain ⟨ao, cp, rfl, h1, h2, h3, h4⟩ := row_shape hrow
        obtain ⟨gg, rfl⟩ := h4 (by omega)
        have hgg := hrow.lt gg rfl
        have hc := row_cell hrow k (.int .i64 (chain F x s0 k)) (ints_get _ _ _ (szL_get _ _ _ _ _ (by omega)))
        have hc2 := hb.cell 2
        simp at hc2
        obtain ⟨c8, cs0, cL⟩ := hcf k
        obtain ⟨s, hs⟩ : ∃ s, s = chain F x s0 k := ⟨_, rfl⟩
        have HS : Hid (s = chain F x s0 k) := hs
        rw [← hs] at hc c8 cs0 cL
        by_cases hl : s < x
        · have HJ : Hid (∀ j, j < k + 1 → chain F x s0 j < x) := by
            intro j hj
            rcases Nat.lt_or_ge j k with h | h
            · exact hlt j h
            · have : j = k := by omega
              rw [this, ← hs]; exact hl
          by_cases hk2 : k = 62
          · subst hk2
            clear hcf hlt hs
            go_wp2
            go_ret
            exact ⟨hF, 63, _, by omega, rfl, row_base hrow (by omega), .inr ⟨rfl, fun j hj => HJ.out j (by omega)⟩⟩
          · have hsF : s * F ≤ 1048576 * 400 := Nat.mul_le_mul (by omega) f1
            obtain ⟨p, hp⟩ : ∃ p, p = s * F := ⟨_, rfl⟩
            have hpi : (s : Int) * F = p := by rw [hp]; simp
            obtain ⟨r, hr⟩ : ∃ r, r = (p + 799) / 800 * 8 := ⟨_, rfl⟩
            have hr1 : r ≤ 10000000 := by rw [hr, hp]; omega
            have hr8 : s + 8 ≤ r := by rw [hr, hp]; exact HG.out s c8 (by omega)
            have hr9 : r % 8 = 0 := by omega
            have HR : Hid (r = (p + 799) / 800 * 8) := hr
            rw [← hp] at hsF
            have HN : Hid (chain F x s0 (k + 1) = min x r) := by
              show _ = _
              rw [hr, hp, hs]; rfl
            clear hcf hlt hs hp hr
            have hk3 : (k : Int) + 1 ≤ 62 := by omega
            go_wp2
            go_loopw [5] (fun v wq => ∃ (n : Nat), v = .int .i64 n ∧ s + 8 ≤ n ∧ n ≤ r ∧ n % 8 = 0 ∧ ∃ qq, wq = wr.drewN qq) (fun v _ => r - (intOf v).toNat)
            case atStart => exact ⟨s + 8, by go_num, by omega, by omega, by omega, 0, rfl⟩
            case round =>
              obtain ⟨n, rfl, hn1, hn2, hn3, qq, rfl⟩ := hrel
              by_cases hn : 100 * n < p
              · have hn4 : n + 8 ≤ r := by have := HR.out; omega
                have hd : decide (100 * (n : Int) < p) = true := by simp; omega
                have hdi : 100 * (n : Int) < p := by omega
                go_wp2
                go_quiet (fail)
                go_wp2
                go_roundw
                case rel => exact ⟨n + 8, by go_num, by omega, by omega, by omega, _, rfl⟩
                case measure => simp [intOf]; omega
              · have hnr : n = r := by have := HR.out; omega
                have hd : decide (100 * (n : Int) < p) = false := by simp; omega
                have hdi : ¬ (100 * (n : Int) < p) := by omega
                subst hnr
                have fin : ∀ (y : Nat), y = min x n → ∀ g1 cap1 w1, World.ownsRow w1 (w.heap.size + 1) 3 1 (.slice (some ⟨g1, 0, none⟩) (k + 1 + 1) cap1) (k + 1 + 1) (ints (szL F x s0 (k + 1)) ++ [.int .i64 y]) → wr.grownBy w1 (some gg) →
                    ∃ k', k' < 63 ∧ (∀ j, j < k' → chain F x s0 j < x) ∧ w1.ownsRow (w.heap.size + 1) 3 1 (.slice (some ⟨g1, 0, none⟩) (k + 1 + 1) cap1) (k' + 1) (ints (szL F x s0 (k' + 1))) ∧ w.grownBy w1 none ∧ w.heap.size + 1 < w1.heap.size ∧ Box w1 107 w.heap.size #[Value.int IntKind.i64 a, Value.int IntKind.i64 b, Value.int IntKind.i64 ↑F, Value.int IntKind.i64 ↑s0, Value.int IntKind.i64 ↑il] := by
                  intro y hy g1 cap1 w1 ho hg
                  refine ⟨k + 1, by omega, HJ.out, ?_, gb_mine hF hg (by omega), Nat.lt_of_lt_of_le hsz hg.size, hb.kept hg (by simp; omega)⟩
                  rw [szL_succ, HN.out, ← hy, ints_snoc]
                  exact ho
                have FIN : Hid _ := fin
                clear fin
                go_wp2
                go_quiet (fail)
                rename_i nq
                have hgW : wr.grownBy ((wr.drewN qq).drewN nq) none := gb_drewN (gb_drewN (gb_refl _ none) _) _
                generalize (wr.drewN qq).drewN nq = W at *
                have hrow2 : World.ownsRow W (w.heap.size + 1) 3 1 (.slice (some ⟨gg, 0, none⟩) (k + 1) cp) (k + 1) (ints (szL F x s0 (k + 1))) := row_kept hrow hgW (by simp)
                have hszW := hgW.size
                by_cases hm : x < n
                · have hm1 : (x : Int) < n := by omega
                  go_wp2_with (at_builtin; go_must (refine push3 rfl _ _ rfl (w.heap.size + 1) _ (k + 1) _ (by rfl) hrow2 _ (by rfl) (by omega) (by omega) ?_))
                  intro g1 cap1 w1 ho hg hat
                  go_wp2
                  go_roundw
                  case rel => exact FIN.out x (by omega) _ _ _ ho (gb_trans (gb_none _ hgW) hg)
                  case measure => simp; omega
                · have hm1 : ¬ ((x : Int) < n) := by omega
                  go_wp2_with (at_builtin; go_must (refine push3 rfl _ _ rfl (w.heap.size + 1) _ (k + 1) _ (by rfl) hrow2 _ (by rfl) (by omega) (by omega) ?_))
                  intro g1 cap1 w1 ho hg hat
                  go_wp2
                  go_roundw
                  case rel => exact FIN.out n (by omega) _ _ _ ho (gb_trans (gb_none _ hgW) hg)
                  case measure => simp; omega
        · have HC : Hid (Cls F x s0 (k + 1)) := ⟨by omega, by simp [← hs]; omega, fun j hj => hlt j (by omega)⟩
          have HJ : Hid (∀ j, j < k → chain F x s0 j < x) := hlt
          clear hcf hlt hs
          go_wp2
          go_ret
          refine ⟨hF, k + 1, _, by omega, rfl, row_base hrow (by omega), ?_⟩
          by_cases hk2 : k = 62
          · exact .inr ⟨by omega, fun j hj => HJ.out j (by omega)⟩
          · exact .inl ⟨by omega, HC.out⟩
    · have hd : decide (((x % 8 : Nat) : Int) = 0) = false := by simp; omega
      have hne : ((x % 8 : Nat) : Int) ≠ 0 := by omega
      have hxl : x + 1 ≤ L := by omega
      generalize x % 8 = y at *
      go_wp2
      go_roundw
      case rel => exact ⟨x + 1, by go_num, by omega, by omega, by trivial⟩
      case measure => simp [intOf]; omega

end Go.Proofs.YtjkdflnnpdionaaGreat
/-
  What is refused.
-/
namespace Go.Proofs.YtjkdflnnpdionaaGreat
open Go.RowKit
set_option linter.unusedVariables false

structure Valid (a b c d e : Int) : Prop where
  pg : PageOk a
  b0 : 1 ≤ b
  b1 : b ≤ 1024
  c0 : 105 ≤ c
  c1 : c ≤ 400
  d0 : 64 ≤ d
  d1 : d ≤ 512
  d8 : d % 8 = 0
  e0 : d ≤ e
  e1 : e ≤ a

def Many (c d e : Int) : Prop := ∀ j, j < 62 → chain c.toNat (limOf e.toNat) d.toNat j < limOf e.toNat
def NCls (c d e : Int) (n : Nat) : Prop := n ≤ 62 ∧ Cls c.toNat (limOf e.toNat) d.toNat n
/-- The document's error of New. -/
def Refd (a b c d e r : Int) : Prop := (¬ Valid a b c d e ∧ r = 1) ∨ (Valid a b c d e ∧ ((Many c d e ∧ r = 2) ∨ ∃ n, NCls c d e n ∧ ((b < n ∧ r = 3) ∨ (n ≤ b ∧ r = 0))))

theorem many_not {c d e : Int} {n : Nat} (h : Many c d e) (k : NCls c d e n) : False := by
  obtain ⟨k1, k2, k3, _⟩ := k
  have := h (n - 1) (by omega)
  omega
theorem refd_uniq {a b c d e r s : Int} (h : Refd a b c d e r) (k : Refd a b c d e s) : r = s := by
  rcases h with ⟨h1, rfl⟩ | ⟨h1, ⟨h2, rfl⟩ | ⟨n, h2, h3⟩⟩ <;> rcases k with ⟨k1, rfl⟩ | ⟨k1, ⟨k2, rfl⟩ | ⟨m, k2, k3⟩⟩
  · rfl
  · exact absurd k1 h1
  · exact absurd k1 h1
  · exact absurd h1 k1
  · rfl
  · exact (many_not h2 k2).elim
  · exact absurd h1 k1
  · exact (many_not k2 h2).elim
  · have := cls_uniq h2.2 k2.2
    subst this
    rcases h3 with ⟨h3, rfl⟩ | ⟨h3, rfl⟩ <;> rcases k3 with ⟨k3, rfl⟩ | ⟨k3, rfl⟩ <;> omega

theorem PageOk.bounds {a : Int} (h : PageOk a) : 4096 ≤ a ∧ a ≤ 1048576 ∧ a % 8 = 0 := by
  obtain ⟨k, rfl, h1, h2⟩ := h
  have := pow_range k h2
  have h3 : 2 ^ 12 ≤ 2 ^ k := Nat.pow_le_pow_right (by omega) h1
  have h4 : 2 ^ k % 8 = 0 := by
    obtain ⟨j, rfl⟩ : ∃ j, k = j + 3 := ⟨k - 3, by omega⟩
    rw [Nat.pow_add]; omega
  omega
theorem Valid.good {a b c d e : Int} (h : Valid a b c d e) : GoodF c.toNat (limOf e.toNat) d.toNat ∧ e.toNat ≤ 1048576 := by
  obtain ⟨p1, p2, p3⟩ := h.pg.bounds
  obtain ⟨_, b0, b1, c0, c1, d0, d1, d8, e0, e1⟩ := h
  have l1 := limOf_ge e.toNat
  have l2 := limOf_8 e.toNat
  exact ⟨⟨by omega, by omega, by omega, by omega, by omega, l2, by omega⟩, by omega⟩

set_option maxHeartbeats 2000000 in
theorem refused_any (a b c d e : Int) (w : World) : Calls Tryz.prog 120 #[refV a b c d e] w fun x w' => ∃ r, x = .returned (.int .i64 r) ∧ w.grownBy w' none ∧ Refd a b c d e r := by
  by_cases hpg : PageOk a ∧ 1 ≤ b ∧ b ≤ 1024
  · have hr := fun W => right_yes a b hpg W
    by_cases hc0 : 105 ≤ c
    · skip
      by_cases hc1 : c ≤ 400
      · skip
        by_cases hd0 : 64 ≤ d
        · skip
          by_cases hd1 : d ≤ 512
          · skip
            by_cases hd8 : d % 8 = 0
            · skip
              by_cases he0 : d ≤ e
              · skip
                by_cases he1 : e ≤ a
                · skip
                  have hV : Valid a b c d e := ⟨hpg.1, hpg.2.1, hpg.2.2, hc0, hc1, hd0, hd1, hd8, he0, he1⟩
                  obtain ⟨hG, hil⟩ := hV.good
                  have hrem : d.tmod 8 = 0 := by rw [Int.tmod_eq_emod_of_nonneg (by omega)]; exact hd8
                  obtain ⟨hp0, hp1, hp2⟩ := hpg.1.bounds
                  have HV : Hid (Valid a b c d e) := hV
                  obtain ⟨F, rfl⟩ := Int.eq_ofNat_of_zero_le (show 0 ≤ c by omega)
                  obtain ⟨s0, rfl⟩ := Int.eq_ofNat_of_zero_le (show 0 ≤ d by omega)
                  obtain ⟨il, rfl⟩ := Int.eq_ofNat_of_zero_le (show 0 ≤ e by omega)
                  simp only [Int.toNat_natCast] at hG hil
                  have hsz := fun W => rsizes_any hG rfl hil a b W
                  have hb1 := hpg.2.1
                  have hb2 := hpg.2.2
                  clear hpg hV hd8
                  unfold refV
                  go_enter Tryz.func120, Tryz.ntmps120
                  go_wp2_with (first | (go_at_call 175; go_must (refine (hr _).mono ?_); rintro x w' ⟨rfl, rfl⟩) | (go_at_call 121; go_must (refine (hsz _).mono ?_)) | fail)
                  rintro x w1 ⟨hF, n, v, hn, rfl, hrow, hcl⟩
                  obtain ⟨ao, cp, rfl, -, hncp, -, -⟩ := row_shape hrow
                  have hF2 : w.grownBy w1 none := gb_trans (gb_alloc (gb_refl _ _) _) hF
                  have c1 : w1.cell? ⟨w.heap.size, 1, none⟩ = some (.int .i64 b) := gb_cellN hF (by rw [(Box.new w 107 _).cell 1]; rfl)
                  by_cases h62 : n ≤ 62
                  · have hNC : NCls F s0 il n := by
                      rcases hcl with h | h
                      · exact ⟨h62, by simpa using h.2⟩
                      · omega
                    by_cases hbn : b < n
                    · have HR : Hid (Refd a b F s0 il 3) := .inr ⟨HV.out, .inr ⟨n, hNC, .inl ⟨hbn, rfl⟩⟩⟩
                      clear hNC hcl hrow
                      go_wp2
                      go_ret
                      exact ⟨_, rfl, hF2, HR.out⟩
                    · have HR : Hid (Refd a b F s0 il 0) := .inr ⟨HV.out, .inr ⟨n, hNC, .inr ⟨by omega, rfl⟩⟩⟩
                      clear hNC hcl hrow
                      go_wp2
                      go_ret
                      exact ⟨_, rfl, hF2, HR.out⟩
                  · have HR : Hid (Refd a b F s0 il 2) := by
                      refine .inr ⟨HV.out, .inl ⟨?_, rfl⟩⟩
                      rcases hcl with h | h
                      · omega
                      · exact fun j hj => by simpa using h.2 j hj
                    clear hcl hrow
                    go_wp2
                    go_ret
                    exact ⟨_, rfl, hF2, HR.out⟩
                · have HN : Hid (Refd a b c d e 1) := .inl ⟨fun h => he1 h.e1, rfl⟩
                  have hrem : d.tmod 8 = 0 := by rw [Int.tmod_eq_emod_of_nonneg (by omega)]; exact hd8
                  clear hd8
                  clear hpg
                  unfold refV
                  go_enter Tryz.func120, Tryz.ntmps120
                  go_wp2_with (first | (go_at_call 175; go_must (refine (hr _).mono ?_); rintro x w' ⟨rfl, rfl⟩) | fail)
                  go_ret
                  exact ⟨_, rfl, gb_alloc (gb_refl _ _) _, HN.out⟩
              · have HN : Hid (Refd a b c d e 1) := .inl ⟨fun h => he0 h.e0, rfl⟩
                have hrem : d.tmod 8 = 0 := by rw [Int.tmod_eq_emod_of_nonneg (by omega)]; exact hd8
                clear hd8
                clear hpg
                unfold refV
                go_enter Tryz.func120, Tryz.ntmps120
                go_wp2_with (first | (go_at_call 175; go_must (refine (hr _).mono ?_); rintro x w' ⟨rfl, rfl⟩) | fail)
                go_ret
                exact ⟨_, rfl, gb_alloc (gb_refl _ _) _, HN.out⟩
            · have HN : Hid (Refd a b c d e 1) := .inl ⟨fun h => hd8 h.d8, rfl⟩
              have hrem : d.tmod 8 = d % 8 := Int.tmod_eq_emod_of_nonneg (by omega)
              have hdd : decide (d % 8 = 0) = false := by simp; omega
              generalize d % 8 = d8 at *
              clear hpg
              unfold refV
              go_enter Tryz.func120, Tryz.ntmps120
              go_wp2_with (first | (go_at_call 175; go_must (refine (hr _).mono ?_); rintro x w' ⟨rfl, rfl⟩) | fail)
              go_ret
              exact ⟨_, rfl, gb_alloc (gb_refl _ _) _, HN.out⟩
          · have HN : Hid (Refd a b c d e 1) := .inl ⟨fun h => hd1 h.d1, rfl⟩
            clear hpg
            unfold refV
            go_enter Tryz.func120, Tryz.ntmps120
            go_wp2_with (first | (go_at_call 175; go_must (refine (hr _).mono ?_); rintro x w' ⟨rfl, rfl⟩) | fail)
            go_ret
            exact ⟨_, rfl, gb_alloc (gb_refl _ _) _, HN.out⟩
        · have HN : Hid (Refd a b c d e 1) := .inl ⟨fun h => hd0 h.d0, rfl⟩
          clear hpg
          unfold refV
          go_enter Tryz.func120, Tryz.ntmps120
          go_wp2_with (first | (go_at_call 175; go_must (refine (hr _).mono ?_); rintro x w' ⟨rfl, rfl⟩) | fail)
          go_ret
          exact ⟨_, rfl, gb_alloc (gb_refl _ _) _, HN.out⟩
      · have HN : Hid (Refd a b c d e 1) := .inl ⟨fun h => hc1 h.c1, rfl⟩
        clear hpg
        unfold refV
        go_enter Tryz.func120, Tryz.ntmps120
        go_wp2_with (first | (go_at_call 175; go_must (refine (hr _).mono ?_); rintro x w' ⟨rfl, rfl⟩) | fail)
        go_ret
        exact ⟨_, rfl, gb_alloc (gb_refl _ _) _, HN.out⟩
    · have HN : Hid (Refd a b c d e 1) := .inl ⟨fun h => hc0 h.c0, rfl⟩
      clear hpg
      unfold refV
      go_enter Tryz.func120, Tryz.ntmps120
      go_wp2_with (first | (go_at_call 175; go_must (refine (hr _).mono ?_); rintro x w' ⟨rfl, rfl⟩) | fail)
      go_ret
      exact ⟨_, rfl, gb_alloc (gb_refl _ _) _, HN.out⟩
  · have hr := fun W => right_no a b hpg W
    have HN : Hid (Refd a b c d e 1) := .inl ⟨fun h => hpg ⟨h.pg, h.b0, h.b1⟩, rfl⟩
    clear hpg
    unfold refV
    go_enter Tryz.func120, Tryz.ntmps120
    go_wp2_with (first | (go_at_call 175; go_must (refine (hr _).mono ?_); rintro x w' ⟨rfl, rfl⟩) | fail)
    go_ret
    exact ⟨_, rfl, gb_alloc (gb_refl _ _) _, HN.out⟩

end Go.Proofs.YtjkdflnnpdionaaGreat
/-
  inBounds, config, heavy.
-/
namespace Go.Proofs.YtjkdflnnpdionaaGreat
open Go.RowKit
set_option linter.unusedVariables false

structure InB (a c d e : Int) : Prop where
  c0 : 105 ≤ c
  c1 : c ≤ 400
  d0 : 64 ≤ d
  d1 : d ≤ 512
  d8 : d % 8 = 0
  e0 : d ≤ e
  e1 : e ≤ a

set_option maxHeartbeats 2000000 in
theorem inB_yes (a b c d e f g : Int) (h : InB a c d e) (w : World) : Calls Tryz.prog 117 #[cfgV a b c d e f g] w fun x w' => x = .returned (.bool true) ∧ w.grownBy w' none := by
  obtain ⟨hc0, hc1, hd0, hd1, hd8, he0, he1⟩ := h
  have hrem : d.tmod 8 = 0 := by rw [Int.tmod_eq_emod_of_nonneg (by omega)]; exact hd8
  clear hd8
  unfold cfgV
  go_enter Tryz.func117, Tryz.ntmps117
  go_wp2
  go_ret
  exact ⟨rfl, gb_alloc (gb_refl _ _) _⟩

set_option maxHeartbeats 2000000 in
theorem inB_no (a b c d e f g : Int) (h : ¬ InB a c d e) (w : World) : Calls Tryz.prog 117 #[cfgV a b c d e f g] w fun x w' => x = .returned (.bool false) ∧ w.grownBy w' none := by
  unfold cfgV
  by_cases hc0 : 105 ≤ c
  rotate_left
  · clear h
    go_enter Tryz.func117, Tryz.ntmps117
    go_wp2
    go_ret
    exact ⟨rfl, gb_alloc (gb_refl _ _) _⟩
  by_cases hc1 : c ≤ 400
  rotate_left
  · clear h
    go_enter Tryz.func117, Tryz.ntmps117
    go_wp2
    go_ret
    exact ⟨rfl, gb_alloc (gb_refl _ _) _⟩
  by_cases hd0 : 64 ≤ d
  rotate_left
  · clear h
    go_enter Tryz.func117, Tryz.ntmps117
    go_wp2
    go_ret
    exact ⟨rfl, gb_alloc (gb_refl _ _) _⟩
  by_cases hd1 : d ≤ 512
  rotate_left
  · clear h
    go_enter Tryz.func117, Tryz.ntmps117
    go_wp2
    go_ret
    exact ⟨rfl, gb_alloc (gb_refl _ _) _⟩
  by_cases hd8 : d % 8 = 0
  rotate_left
  · clear h
    have hrem : d.tmod 8 = d % 8 := Int.tmod_eq_emod_of_nonneg (by omega)
    have hdd : decide (d % 8 = 0) = false := by simp; omega
    generalize d % 8 = d8 at *
    go_enter Tryz.func117, Tryz.ntmps117
    go_wp2
    go_ret
    exact ⟨rfl, gb_alloc (gb_refl _ _) _⟩
  by_cases he0 : d ≤ e
  rotate_left
  · clear h
    have hrem : d.tmod 8 = 0 := by rw [Int.tmod_eq_emod_of_nonneg (by omega)]; exact hd8
    clear hd8
    go_enter Tryz.func117, Tryz.ntmps117
    go_wp2
    go_ret
    exact ⟨rfl, gb_alloc (gb_refl _ _) _⟩
  by_cases he1 : e ≤ a
  rotate_left
  · clear h
    have hrem : d.tmod 8 = 0 := by rw [Int.tmod_eq_emod_of_nonneg (by omega)]; exact hd8
    clear hd8
    go_enter Tryz.func117, Tryz.ntmps117
    go_wp2
    go_ret
    exact ⟨rfl, gb_alloc (gb_refl _ _) _⟩
  exact absurd ⟨hc0, hc1, hd0, hd1, hd8, he0, he1⟩ h

theorem refd_ex (a b c d e : Int) : ∃ r, Refd a b c d e r := by
  by_cases hV : Valid a b c d e
  · rcases cls_or c.toNat (limOf e.toNat) d.toNat 62 with ⟨n, h1, h2⟩ | h
    · by_cases hb : b < n
      · exact ⟨3, .inr ⟨hV, .inr ⟨n, ⟨h1, h2⟩, .inl ⟨hb, rfl⟩⟩⟩⟩
      · exact ⟨0, .inr ⟨hV, .inr ⟨n, ⟨h1, h2⟩, .inr ⟨by omega, rfl⟩⟩⟩⟩
    · exact ⟨2, .inr ⟨hV, .inl ⟨h, rfl⟩⟩⟩
  · exact ⟨1, .inl ⟨hV, rfl⟩⟩
theorem refused_is {a b c d e r : Int} (h : Refd a b c d e r) (w : World) : Calls Tryz.prog 120 #[refV a b c d e] w fun x w' => x = .returned (.int .i64 r) ∧ w.grownBy w' none :=
  (refused_any a b c d e w).mono (by rintro x w' ⟨s, rfl, hF, hs⟩; rw [refd_uniq h hs]; exact ⟨rfl, hF⟩)
theorem refd_range {a b c d e r : Int} (h : Refd a b c d e r) : 0 ≤ r ∧ r ≤ 3 := by
  rcases h with ⟨_, rfl⟩ | ⟨_, ⟨_, rfl⟩ | ⟨n, _, ⟨_, rfl⟩ | ⟨_, rfl⟩⟩⟩ <;> omega
theorem refd_zero {a b c d e : Int} (h : Refd a b c d e 0) : Valid a b c d e ∧ ∃ n, NCls c d e n ∧ n ≤ b := by
  rcases h with ⟨_, h⟩ | ⟨h1, ⟨_, h⟩ | ⟨n, h2, ⟨_, h⟩ | ⟨h3, _⟩⟩⟩
  · omega
  · omega
  · omega
  · exact ⟨h1, n, h2, h3⟩

/-- The seven cells of a config's own variable. -/
def C7 (w : World) (k : Nat) (a b c d e f g : Int) : Prop := w.cell? ⟨k, 0, none⟩ = some (.int .i64 a) ∧ w.cell? ⟨k, 1, none⟩ = some (.int .i64 b) ∧ w.cell? ⟨k, 2, none⟩ = some (.int .i64 c) ∧ w.cell? ⟨k, 3, none⟩ = some (.int .i64 d) ∧ w.cell? ⟨k, 4, none⟩ = some (.int .i64 e) ∧ w.cell? ⟨k, 5, none⟩ = some (.int .i64 f) ∧ w.cell? ⟨k, 6, none⟩ = some (.int .i64 g)
theorem C7.kept {w w' : World} {k : Nat} {a b c d e f g : Int} (h : C7 w k a b c d e f g) (hf : w.grownBy w' none) : C7 w' k a b c d e f g := by
  obtain ⟨h0, h1, h2, h3, h4, h5, h6⟩ := h
  exact ⟨gb_cellN hf h0, gb_cellN hf h1, gb_cellN hf h2, gb_cellN hf h3, gb_cellN hf h4, gb_cellN hf h5, gb_cellN hf h6⟩

end Go.Proofs.YtjkdflnnpdionaaGreat
