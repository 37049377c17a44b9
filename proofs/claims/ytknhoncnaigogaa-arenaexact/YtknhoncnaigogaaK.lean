/-
  Plain laws on numbers laid into a row of bytes and told again.
-/
import Derived.Test.YtknhoncnaigogaaC
namespace Go.Proofs.Ytknhoncnaigogaa
set_option linter.unusedVariables false

theorem getL_shift (zs : List Int) (x : Nat) : ∀ (k i : Nat) (s : Int), getL zs x k i s = getL zs (x + i) k 0 s
  | 0, _, _ => rfl
  | k + 1, i, s => by
    show getL zs x k (i + 1) _ = getL zs (x + i) k (0 + 1) _
    rw [getL_shift zs x k (i + 1), getL_shift zs (x + i) k (0 + 1)]
    simp [Nat.add_assoc]
theorem getL_lin (zs : List Int) (x : Nat) : ∀ (k i : Nat) (s : Int), getL zs x k i s = s * pw k + getL zs x k i 0
  | 0, _, s => by simp [getL, pw]
  | k + 1, i, s => by
    show getL zs x k (i + 1) (256 * s + zs.getD (x + i) 0) = s * (256 * pw k) + getL zs x k (i + 1) (256 * 0 + zs.getD (x + i) 0)
    rw [getL_lin zs x k (i + 1) (256 * s + _), getL_lin zs x k (i + 1) (256 * 0 + _)]
    have e : (256 * s + zs.getD (x + i) 0) * pw k = s * (256 * pw k) + zs.getD (x + i) 0 * pw k := by
      rw [Int.add_mul, Int.mul_comm 256 s, Int.mul_assoc]
    rw [e]
    simp [Int.add_assoc]
theorem getL_split (zs : List Int) (x : Nat) : ∀ (m n i : Nat) (s : Int), getL zs x (m + n) i s = getL zs x n (i + m) (getL zs x m i s)
  | 0, n, i, s => by simp [getL]
  | m + 1, n, i, s => by
    rw [show m + 1 + n = (m + n) + 1 by omega]
    show getL zs x (m + n) (i + 1) _ = _
    rw [getL_split zs x m n (i + 1)]
    rw [show i + 1 + m = i + (m + 1) by omega]
    rfl
theorem getL_halves (zs : List Int) (x m n : Nat) : getL zs x (m + n) 0 0 = getL zs x m 0 0 * pw n + getL zs (x + m) n 0 0 := by
  rw [getL_split, getL_lin zs x n, getL_shift zs x n]
  simp
theorem getL_congr (zs ys : List Int) (x : Nat) : ∀ (k i : Nat) (s : Int), (∀ j, i ≤ j → j < i + k → zs.getD (x + j) 0 = ys.getD (x + j) 0) → getL zs x k i s = getL ys x k i s
  | 0, _, _, _ => rfl
  | k + 1, i, s, h => by
    show getL zs x k (i + 1) _ = getL ys x k (i + 1) _
    rw [h i (by omega) (by omega)]
    exact getL_congr zs ys x k (i + 1) _ fun j h1 h2 => h j (by omega) (by omega)
theorem putL_apart (x : Nat) : ∀ (k : Nat) (zs : List Int) (v : Int) (j : Nat), j < x ∨ x + k ≤ j → (putL zs x k v).getD j 0 = zs.getD j 0
  | 0, _, _, _, _ => rfl
  | k + 1, zs, v, j, h => by
    show (putL (zs.set (x + k) (v % 256)) x k (v / 256)).getD j 0 = _
    rw [putL_apart x k _ _ j (by omega)]
    simp only [List.getD_eq_getElem?_getD]
    rw [List.getElem?_set_ne (by omega)]
theorem get_apart (zs : List Int) (x k : Nat) (v : Int) (y m : Nat) (h : y + m ≤ x ∨ x + k ≤ y) : getL (putL zs x k v) y m 0 0 = getL zs y m 0 0 :=
  getL_congr _ _ _ _ _ _ fun j h1 h2 => putL_apart x k zs v _ (by omega)
theorem get_put (x : Nat) : ∀ (k : Nat) (zs : List Int) (v : Int), 0 ≤ v → v < pw k → x + k ≤ zs.length → getL (putL zs x k v) x k 0 0 = v
  | 0, _, v, h0, h1, _ => by
    have : pw 0 = 1 := rfl
    show (0 : Int) = v
    omega
  | k + 1, zs, v, h0, h1, h => by
    show getL (putL (zs.set (x + k) (v % 256)) x k (v / 256)) x (k + 1) 0 0 = v
    have e : pw (k + 1) = 256 * pw k := rfl
    have ih := get_put x k (zs.set (x + k) (v % 256)) (v / 256) (by omega) (by omega) (by simp; omega)
    rw [getL_halves _ x k 1, ih]
    have e1 : pw 1 = 256 := by decide +kernel
    have e2 : getL (putL (zs.set (x + k) (v % 256)) x k (v / 256)) (x + k) 1 0 0 = v % 256 := by
      show 256 * 0 + (putL (zs.set (x + k) (v % 256)) x k (v / 256)).getD (x + k + 0) 0 = v % 256
      rw [putL_apart x k _ _ _ (by omega)]
      simp only [List.getD_eq_getElem?_getD, Nat.add_zero]
      rw [List.getElem?_set_self (by omega)]
      simp
    rw [e1, e2]
    omega

end Go.Proofs.Ytknhoncnaigogaa
