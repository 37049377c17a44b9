import Derived.Test.YtoaaaeefcipdcaaF
/-
  bits.OnesCount64 of small numbers: one bit just where the number is a power of two.
-/
namespace Go.Proofs.Ytoaaaeefcipdcaa
open Go.RowKit
set_option linter.unusedVariables false

def e1 (b : Nat) : Nat := (b / 2 &&& 85) + (b &&& 85)
def e2 (b : Nat) : Nat := (b / 4 &&& 51) + (b &&& 51)
def e3 (b : Nat) : Nat := (b / 16 + b) % 16
def pb (b : Nat) : Nat := e3 (e2 (e1 b))

theorem and_split (x y : Nat) : x &&& y = (x % 256 &&& y % 256) + 256 * (x / 256 &&& y / 256) := by
  have h1 : (x &&& y) % 2 ^ 8 = (x % 2 ^ 8) &&& (y % 2 ^ 8) := Nat.and_mod_two_pow
  have h2 : (x &&& y) / 2 ^ 8 = x / 2 ^ 8 &&& y / 2 ^ 8 := Nat.and_div_two_pow
  have h3 := Nat.mod_add_div (x &&& y) (2 ^ 8)
  rw [h1, h2] at h3
  exact h3.symm
theorem d1 : ∀ (b : Fin 256) (t : Fin 2), (b.val / 2 + 128 * t.val) &&& 85 = b.val / 2 &&& 85 := by decide +kernel
theorem d2 : ∀ (b : Fin 256) (t : Fin 4), (b.val / 4 + 64 * t.val) &&& 51 = b.val / 4 &&& 51 := by decide +kernel
theorem e1_lt : ∀ b : Fin 256, e1 b.val < 256 ∧ e2 (e1 b.val) < 256 ∧ e2 (e1 b.val) % 16 ≤ 4 ∧ e2 (e1 b.val) / 16 ≤ 4 ∧ pb b.val ≤ 8 := by decide +kernel
theorem pb_zero : ∀ b : Fin 256, pb b.val = 0 → b.val = 0 := by decide +kernel
theorem pb_one : ∀ b : Fin 256, pb b.val = 1 → b.val = 1 ∨ b.val = 2 ∨ b.val = 4 ∨ b.val = 8 ∨ b.val = 16 ∨ b.val = 32 ∨ b.val = 64 ∨ b.val = 128 := by decide +kernel

def S1 (M a : Nat) : Nat := (a / 2 &&& M) + (a &&& M)
def S2 (M a : Nat) : Nat := (a / 4 &&& M) + (a &&& M)
theorem S1_step (M a : Nat) (hM : M % 256 = 85) : S1 M a = e1 (a % 256) + 256 * S1 (M / 256) (a / 256) := by
  have h := d1 ⟨a % 256, by omega⟩ ⟨a / 256 % 2, by omega⟩
  simp only at h
  have e : a / 2 % 256 = a % 256 / 2 + 128 * (a / 256 % 2) := by omega
  unfold S1 e1
  rw [and_split (a / 2) M, and_split a M, hM, e, h, show a / 2 / 256 = a / 256 / 2 by omega]
  omega
theorem S2_step (M a : Nat) (hM : M % 256 = 51) : S2 M a = e2 (a % 256) + 256 * S2 (M / 256) (a / 256) := by
  have h := d2 ⟨a % 256, by omega⟩ ⟨a / 256 % 4, by omega⟩
  simp only at h
  have e : a / 4 % 256 = a % 256 / 4 + 64 * (a / 256 % 4) := by omega
  unfold S2 e2
  rw [and_split (a / 4) M, and_split a M, hM, e, h, show a / 4 / 256 = a / 256 / 4 by omega]
  omega
theorem S1_zero (M : Nat) : S1 M 0 = 0 := by simp [S1]
theorem S2_zero (M : Nat) : S2 M 0 = 0 := by simp [S2]
theorem S1_three (a : Nat) (ha : a < 16777216) : S1 6148914691236517205 a = e1 (a % 256) + 256 * (e1 (a / 256 % 256) + 256 * e1 (a / 65536)) := by
  rw [S1_step _ a (by decide), S1_step _ (a / 256) (by decide), S1_step _ (a / 256 / 256) (by decide)]
  rw [show a / 256 / 256 / 256 = 0 by omega, S1_zero, show a / 256 / 256 % 256 = a / 65536 by omega]
  omega
theorem S2_three (x0 x1 x2 : Nat) (h0 : x0 < 256) (h1 : x1 < 256) (h2 : x2 < 256) : S2 3689348814741910323 (x0 + 256 * (x1 + 256 * x2)) = e2 x0 + 256 * (e2 x1 + 256 * e2 x2) := by
  rw [S2_step _ _ (by decide), S2_step _ _ (by decide), S2_step _ _ (by decide)]
  rw [show (x0 + 256 * (x1 + 256 * x2)) / 256 / 256 / 256 = 0 by omega, S2_zero]
  rw [show (x0 + 256 * (x1 + 256 * x2)) % 256 = x0 by omega, show (x0 + 256 * (x1 + 256 * x2)) / 256 % 256 = x1 by omega, show (x0 + 256 * (x1 + 256 * x2)) / 256 / 256 % 256 = x2 by omega]
  omega
theorem d3 : ∀ b : Fin 256, b.val &&& 15 = b.val % 16 := by decide +kernel
theorem e3_ul (u l : Nat) (hu : u ≤ 4) (hl : l ≤ 4) : e3 (16 * u + l) = u + l := by unfold e3; omega
theorem S3_three (y0 y1 y2 : Nat) (h0 : y0 % 16 ≤ 4 ∧ y0 / 16 ≤ 4) (h1 : y1 % 16 ≤ 4 ∧ y1 / 16 ≤ 4) (h2 : y2 % 16 ≤ 4 ∧ y2 / 16 ≤ 4) :
    ((y0 + 256 * (y1 + 256 * y2)) / 16 + (y0 + 256 * (y1 + 256 * y2))) &&& 1085102592571150095 = e3 y0 + 256 * (e3 y1 + 256 * e3 y2) := by
  obtain ⟨u0, l0, rfl, g0, k0⟩ : ∃ u l, y0 = 16 * u + l ∧ u ≤ 4 ∧ l ≤ 4 := ⟨y0 / 16, y0 % 16, by omega, h0.2, h0.1⟩
  obtain ⟨u1, l1, rfl, g1, k1⟩ : ∃ u l, y1 = 16 * u + l ∧ u ≤ 4 ∧ l ≤ 4 := ⟨y1 / 16, y1 % 16, by omega, h1.2, h1.1⟩
  obtain ⟨u2, l2, rfl, g2, k2⟩ : ∃ u l, y2 = 16 * u + l ∧ u ≤ 4 ∧ l ≤ 4 := ⟨y2 / 16, y2 % 16, by omega, h2.2, h2.1⟩
  clear h0 h1 h2
  have hd : (16 * u0 + l0 + 256 * (16 * u1 + l1 + 256 * (16 * u2 + l2))) / 16 = u0 + 16 * (16 * u1 + l1) + 4096 * (16 * u2 + l2) := by omega
  rw [hd]
  obtain ⟨z, hz⟩ : ∃ z, z = u0 + 16 * (16 * u1 + l1) + 4096 * (16 * u2 + l2) + (16 * u0 + l0 + 256 * (16 * u1 + l1 + 256 * (16 * u2 + l2))) := ⟨_, rfl⟩
  rw [← hz]
  have z0 : z % 256 = u0 + 16 * l1 + 16 * u0 + l0 := by omega
  have z1 : z / 256 % 256 = u1 + 16 * l2 + 16 * u1 + l1 := by omega
  have z2 : z / 256 / 256 % 256 = u2 + 16 * u2 + l2 := by omega
  have z3 : z / 256 / 256 / 256 = 0 := by omega
  have a0 := d3 ⟨z % 256, by omega⟩
  have a1 := d3 ⟨z / 256 % 256, by omega⟩
  have a2 := d3 ⟨z / 256 / 256 % 256, by omega⟩
  simp only at a0 a1 a2
  rw [and_split z, and_split (z / 256), and_split (z / 256 / 256)]
  rw [z3, Nat.zero_and]
  rw [show 1085102592571150095 % 256 = 15 by decide, a0, a1, a2, z0, z1, z2]
  rw [e3_ul u0 l0 g0 k0, e3_ul u1 l1 g1 k1, e3_ul u2 l2 g2 k2]
  rw [show (u0 + 16 * l1 + 16 * u0 + l0) % 16 = u0 + l0 by omega, show (u1 + 16 * l2 + 16 * u1 + l1) % 16 = u1 + l1 by omega, show (u2 + 16 * u2 + l2) % 16 = u2 + l2 by omega]
  simp
theorem fold_three (p0 p1 p2 : Nat) (h0 : p0 ≤ 8) (h1 : p1 ≤ 8) (h2 : p2 ≤ 8) (x : Nat) (hx : x = p0 + 256 * (p1 + 256 * p2)) :
    ((x + x / 256) + (x + x / 256) / 65536) % 128 = p0 + p1 + p2 ∧ x + x / 256 < 16777216 ∧ x < 16777216 ∧ (x + x / 256) + (x + x / 256) / 65536 < 16777216 := by
  have a1 : x / 256 = p1 + 256 * p2 := by omega
  rw [a1]
  have a2 : (x + (p1 + 256 * p2)) / 65536 = p2 := by omega
  rw [a2]
  omega

theorem and_u64 (a b : Nat) (ha : a < 18446744073709551616) (hb : b < 18446744073709551616) : bits BinOp.and IntKind.u64 (a : Int) (b : Int) = ((a &&& b : Nat) : Int) := u64_and_nat a b ha hb
theorem wrap_u64 (a : Nat) (ha : a < 18446744073709551616) : IntKind.u64.wrap (a : Int) = a := by
  have : IntKind.u64.wrap (a : Int) = (a : Int) % 18446744073709551616 := by simp [IntKind.wrap, IntKind.bits, IntKind.signed]
  rw [this]; omega
theorem and_le (a b : Nat) : a &&& b ≤ a := Nat.and_le_left

theorem ones1_nat (a : Nat) (ha : a < 16777216) : ones1 (a : Int) = ((S1 6148914691236517205 a : Nat) : Int) := by
  unfold ones1 S1
  have h1 := and_le (a / 2) 6148914691236517205
  have h2 := and_le a 6148914691236517205
  rw [show ((a : Int) / 2) = ((a / 2 : Nat) : Int) by omega]
  have k1 := and_u64 (a / 2) 6148914691236517205 (by omega) (by decide)
  have k2 := and_u64 a 6148914691236517205 (by omega) (by decide)
  rw [show ((6148914691236517205 : Nat) : Int) = 6148914691236517205 from rfl] at k1 k2
  rw [k1, k2, ← Int.natCast_add]
  exact wrap_u64 _ (by omega)
theorem ones2_nat (a : Nat) (ha : a < 16777216) : ones2 (a : Int) = ((S2 3689348814741910323 a : Nat) : Int) := by
  unfold ones2 S2
  have h1 := and_le (a / 4) 3689348814741910323
  have h2 := and_le a 3689348814741910323
  rw [show ((a : Int) / 4) = ((a / 4 : Nat) : Int) by omega]
  have k1 := and_u64 (a / 4) 3689348814741910323 (by omega) (by decide)
  have k2 := and_u64 a 3689348814741910323 (by omega) (by decide)
  rw [show ((3689348814741910323 : Nat) : Int) = 3689348814741910323 from rfl] at k1 k2
  rw [k1, k2, ← Int.natCast_add]
  exact wrap_u64 _ (by omega)
theorem ones3_nat (a : Nat) (ha : a < 16777216) : ones3 (a : Int) = ((((a / 16 + a) &&& 1085102592571150095 : Nat)) : Int) := by
  unfold ones3
  rw [show ((a : Int) / 16 + a) = ((a / 16 + a : Nat) : Int) by omega, wrap_u64 _ (by omega)]
  exact and_u64 (a / 16 + a) 1085102592571150095 (by omega) (by decide)
theorem ones_fold (x : Nat) (h0 : x < 16777216) (h1 : x + x / 256 < 16777216) (h2 : (x + x / 256) + (x + x / 256) / 65536 < 16777216) : ones6 (ones5 (ones4 (x : Int))) = (((x + x / 256) + (x + x / 256) / 65536 : Nat) : Int) := by
  have k4 : ones4 (x : Int) = ((x + x / 256 : Nat) : Int) := by
    unfold ones4
    rw [show ((x : Int) + (x : Int) / 256) = ((x + x / 256 : Nat) : Int) by omega, wrap_u64 _ (by omega)]
  have k5 : ∀ y : Nat, y < 16777216 → y + y / 65536 < 16777216 → ones5 (y : Int) = ((y + y / 65536 : Nat) : Int) := by
    intro y h3 h4
    unfold ones5
    rw [show ((y : Int) + (y : Int) / 65536) = ((y + y / 65536 : Nat) : Int) by omega, wrap_u64 _ (by omega)]
  have k6 : ∀ y : Nat, y < 16777216 → ones6 (y : Int) = (y : Int) := by
    intro y h3
    unfold ones6
    rw [show ((y : Int) + (y : Int) / 4294967296) = ((y : Nat) : Int) by omega, wrap_u64 _ (by omega)]
  rw [k4, k5 _ h1 h2, k6 _ h2]

theorem ones_three (a : Nat) (ha : a < 16777216) : ones3 (ones2 (ones1 (a : Int))) = ((pb (a % 256) + 256 * (pb (a / 256 % 256) + 256 * pb (a / 65536)) : Nat) : Int) := by
  have b0 := e1_lt ⟨a % 256, by omega⟩
  have b1 := e1_lt ⟨a / 256 % 256, by omega⟩
  have b2 := e1_lt ⟨a / 65536, by omega⟩
  simp only at b0 b1 b2
  rw [ones1_nat a ha, S1_three a ha]
  unfold pb at *
  generalize e1 (a % 256) = x0 at *
  generalize e1 (a / 256 % 256) = x1 at *
  generalize e1 (a / 65536) = x2 at *
  rw [ones2_nat _ (by omega), S2_three _ _ _ b0.1 b1.1 b2.1]
  generalize e2 x0 = y0 at *
  generalize e2 x1 = y1 at *
  generalize e2 x2 = y2 at *
  rw [ones3_nat _ (by omega), S3_three _ _ _ ⟨b0.2.2.1, b0.2.2.2.1⟩ ⟨b1.2.2.1, b1.2.2.2.1⟩ ⟨b2.2.2.1, b2.2.2.2.1⟩]
theorem mask127 (y : Nat) (h : y < 16777216) : bits BinOp.and IntKind.i64 (wrap64 (y : Int)) 127 = ((y % 128 : Nat) : Int) := by
  have hw : wrap64 (y : Int) = y := by unfold wrap64; omega
  rw [hw]
  have hm := mask_i64 7 (by omega) (y : Int) (by omega) (by omega)
  rw [show ((2 : Int) ^ 7 - 1) = 127 by decide, show ((2 : Int) ^ 7) = 128 by decide] at hm
  rw [hm]
  omega

/-- The bits of a small number, byte by byte. -/
theorem onesF_nat (a : Nat) (ha : a < 16777216) : onesF (a : Int) = ((pb (a % 256) + pb (a / 256 % 256) + pb (a / 65536) : Nat) : Int) := by
  have b0 := (e1_lt ⟨a % 256, by omega⟩).2.2.2.2
  have b1 := (e1_lt ⟨a / 256 % 256, by omega⟩).2.2.2.2
  have b2 := (e1_lt ⟨a / 65536, by omega⟩).2.2.2.2
  simp only at b0 b1 b2
  unfold onesF
  rw [ones_three a ha]
  generalize pb (a % 256) = p0 at *
  generalize pb (a / 256 % 256) = p1 at *
  generalize pb (a / 65536) = p2 at *
  obtain ⟨x, hx⟩ : ∃ x, x = p0 + 256 * (p1 + 256 * p2) := ⟨_, rfl⟩
  rw [← hx]
  have hf := fold_three p0 p1 p2 b0 b1 b2 x hx
  rw [ones_fold _ hf.2.2.1 hf.2.1 hf.2.2.2, mask127 _ hf.2.2.2, hf.1]

/-- A page's size: a power of two. -/
theorem page_pow (n : Int) (h : pageB n = true) : ∃ k, n = ((2 ^ k : Nat) : Int) ∧ 12 ≤ k ∧ k ≤ 20 := by
  unfold pageB at h
  simp only [Bool.and_eq_true, decide_eq_true_eq, beq_iff_eq] at h
  obtain ⟨⟨h1, h2⟩, h3⟩ := h
  obtain ⟨a, rfl⟩ := Int.eq_ofNat_of_zero_le (show 0 ≤ n by omega)
  rw [onesF_nat a (by omega)] at h3
  have c0 := pb_zero ⟨a % 256, by omega⟩
  have c1 := pb_zero ⟨a / 256 % 256, by omega⟩
  have c2 := pb_zero ⟨a / 65536, by omega⟩
  have o1 := pb_one ⟨a / 256 % 256, by omega⟩
  have o2 := pb_one ⟨a / 65536, by omega⟩
  have o0 := pb_one ⟨a % 256, by omega⟩
  simp only at c0 c1 c2 o1 o2 o0
  have hcases : (pb (a % 256) = 1 ∧ pb (a / 256 % 256) = 0 ∧ pb (a / 65536) = 0) ∨ (pb (a % 256) = 0 ∧ pb (a / 256 % 256) = 1 ∧ pb (a / 65536) = 0) ∨ (pb (a % 256) = 0 ∧ pb (a / 256 % 256) = 0 ∧ pb (a / 65536) = 1) := by omega
  have key : a = 4096 ∨ a = 8192 ∨ a = 16384 ∨ a = 32768 ∨ a = 65536 ∨ a = 131072 ∨ a = 262144 ∨ a = 524288 ∨ a = 1048576 := by
    rcases hcases with ⟨p, q, r⟩ | ⟨p, q, r⟩ | ⟨p, q, r⟩
    · have := o0 p; have := c1 q; have := c2 r; omega
    · have := c0 p; have := o1 q; have := c2 r; omega
    · have := c0 p; have := c1 q; have := o2 r; omega
  rcases key with rfl | rfl | rfl | rfl | rfl | rfl | rfl | rfl | rfl
  · exact ⟨12, rfl, by omega, by omega⟩
  · exact ⟨13, rfl, by omega, by omega⟩
  · exact ⟨14, rfl, by omega, by omega⟩
  · exact ⟨15, rfl, by omega, by omega⟩
  · exact ⟨16, rfl, by omega, by omega⟩
  · exact ⟨17, rfl, by omega, by omega⟩
  · exact ⟨18, rfl, by omega, by omega⟩
  · exact ⟨19, rfl, by omega, by omega⟩
  · exact ⟨20, rfl, by omega, by omega⟩

end Go.Proofs.Ytoaaaeefcipdcaa
