/-
  The hash, in numbers: the sum, the mixture, and how each is undone.
-/
import Derived.Test.YtphhofbdekbggaaRows
namespace Go.Proofs.Ytphhofbdekbggaa

/-- The sum with one byte more. -/
def fnv (h c : Nat) : Nat := (h ^^^ c) * 1099511628211 % 18446744073709551616
/-- FNV-1a, from h on. -/
def fon (h : Nat) (b : List Nat) : Nat := b.foldl fnv h
def stir (h : Nat) : Nat := (h ^^^ h / 1073741824) * 13787848793156543929 % 18446744073709551616
def again (h : Nat) : Nat := (h ^^^ h / 134217728) * 10723151780598845931 % 18446744073709551616
def last (h : Nat) : Nat := h ^^^ h / 2147483648
def mix (h : Nat) : Nat := last (again (stir h))
def slot (h : Nat) (n : Int) : Int := if n < 2 then 0 else ((mix h % n.toNat : Nat) : Int)
def point (h : Nat) : Nat := mix h / 4294967296

theorem fnv_lt (h c : Nat) : fnv h c < 18446744073709551616 := Nat.mod_lt _ (by decide)
theorem fon_lt (h : Nat) (b : List Nat) (hh : h < 18446744073709551616) : fon h b < 18446744073709551616 := by
  induction b generalizing h with
  | nil => exact hh
  | cons c b ih => unfold fon at *; rw [List.foldl_cons]; exact ih _ (fnv_lt _ _)
theorem fon_append (h : Nat) (a b : List Nat) : fon h (a ++ b) = fon (fon h a) b := by unfold fon; exact List.foldl_append
theorem fon_snoc (h : Nat) (a : List Nat) (c : Nat) : fon h (a ++ [c]) = fnv (fon h a) c := by
  rw [fon_append]
  unfold fon
  rw [List.foldl_cons, List.foldl_nil]
theorem fon_nil (h : Nat) : fon h [] = h := by unfold fon; exact List.foldl_nil
theorem fon_cons (h c : Nat) (b : List Nat) : fon h (c :: b) = fon (fnv h c) b := by unfold fon; exact List.foldl_cons ..
theorem stir_lt (h : Nat) : stir h < 18446744073709551616 := Nat.mod_lt _ (by decide)
theorem again_lt (h : Nat) : again h < 18446744073709551616 := Nat.mod_lt _ (by decide)
theorem xor_lt (a b : Nat) (ha : a < 18446744073709551616) (hb : b < 18446744073709551616) : a ^^^ b < 18446744073709551616 := by
  have h : (18446744073709551616 : Nat) = 2 ^ 64 := by decide
  exact h ▸ Nat.xor_lt_two_pow (n := 64) (h ▸ ha) (h ▸ hb)
theorem last_lt (h : Nat) (hh : h < 18446744073709551616) : last h < 18446744073709551616 :=
  xor_lt _ _ hh (Nat.lt_of_le_of_lt (Nat.div_le_self _ _) hh)
theorem mix_lt (h : Nat) : mix h < 18446744073709551616 := last_lt _ (again_lt _)
theorem point_lt (h : Nat) : point h < 4294967296 := by have := mix_lt h; unfold point; omega

/-- Two numbers XORed, by their halves and their last bits. -/
theorem xor_half (a b : Nat) : a ^^^ b = 2 * (a / 2 ^^^ b / 2) + (if a % 2 = b % 2 then 0 else 1) := by
  have h1 : (a ^^^ b) / 2 = a / 2 ^^^ b / 2 := Nat.xor_div_two
  have h2 : (a ^^^ b) % 2 = (if a % 2 = b % 2 then 0 else 1) := by
    have h3 : a % 2 = 0 ∨ a % 2 = 1 := by omega
    have h4 : b % 2 = 0 ∨ b % 2 = 1 := by omega
    have h5 : (a ^^^ b) % 2 = (a % 2) ^^^ (b % 2) := Nat.xor_mod_two_pow (n := 1)
    rw [h5]
    rcases h3 with h3 | h3 <;> rcases h4 with h4 | h4 <;> rw [h3, h4] <;> decide
  omega

/-- What is XORed with itself >> k is undone by >> k and >> 2k, where 3k bits are none. -/
theorem unshift (x k : Nat) (hk : x / 2 ^ (3 * k) = 0) :
    (((x ^^^ x / 2 ^ k) ^^^ (x ^^^ x / 2 ^ k) / 2 ^ k) ^^^ (x ^^^ x / 2 ^ k) / 2 ^ (2 * k)) = x := by
  simp only [← Nat.shiftRight_eq_div_pow] at hk ⊢
  rw [Nat.shiftRight_xor_distrib, Nat.shiftRight_xor_distrib, ← Nat.shiftRight_add, ← Nat.shiftRight_add]
  rw [show k + k = 2 * k by omega, show k + 2 * k = 3 * k by omega, hk, Nat.xor_zero]
  rw [← Nat.xor_assoc, Nat.xor_assoc x, Nat.xor_self, Nat.xor_zero, Nat.xor_assoc, Nat.xor_self, Nat.xor_zero]

theorem mulback (x c d : Nat) (hx : x < 18446744073709551616) (h : c * d % 18446744073709551616 = 1) :
    x * c % 18446744073709551616 * d % 18446744073709551616 = x := by
  rw [Nat.mod_mul_mod, Nat.mul_assoc, Nat.mul_mod, h, Nat.mul_one, Nat.mod_mod, Nat.mod_eq_of_lt hx]

/-- What `back` makes. -/
def unlast (h : Nat) : Nat := h ^^^ h / 2147483648 ^^^ h / 4611686018427387904
def unagain (h : Nat) : Nat := h ^^^ h / 134217728 ^^^ h / 18014398509481984
def unstir (h : Nat) : Nat := h ^^^ h / 1073741824 ^^^ h / 1152921504606846976
def unm1 (h : Nat) : Nat := h * 3573116690164977347 % 18446744073709551616
def unm2 (h : Nat) : Nat := h * 10871156337175269513 % 18446744073709551616
def unmix (h : Nat) : Nat := unstir (unm2 (unagain (unm1 (unlast h))))
theorem unm1_lt (h : Nat) : unm1 h < 18446744073709551616 := Nat.mod_lt _ (by decide)
theorem unm2_lt (h : Nat) : unm2 h < 18446744073709551616 := Nat.mod_lt _ (by decide)


theorem unlast_last (x : Nat) (hx : x < 18446744073709551616) : unlast (last x) = x := by
  have h := unshift x 31 (Nat.div_eq_of_lt (Nat.lt_trans hx (by decide)))
  rw [show (2 : Nat) ^ 31 = 2147483648 by decide, show (2 : Nat) ^ (2 * 31) = 4611686018427387904 by decide] at h
  exact h
theorem unagain_again (x : Nat) (hx : x < 18446744073709551616) : unagain (x ^^^ x / 134217728) = x := by
  have h := unshift x 27 (Nat.div_eq_of_lt (Nat.lt_trans hx (by decide)))
  rw [show (2 : Nat) ^ 27 = 134217728 by decide, show (2 : Nat) ^ (2 * 27) = 18014398509481984 by decide] at h
  exact h
theorem unstir_stir (x : Nat) (hx : x < 18446744073709551616) : unstir (x ^^^ x / 1073741824) = x := by
  have h := unshift x 30 (Nat.div_eq_of_lt (Nat.lt_trans hx (by decide)))
  rw [show (2 : Nat) ^ 30 = 1073741824 by decide, show (2 : Nat) ^ (2 * 30) = 1152921504606846976 by decide] at h
  exact h
theorem unmix_mix (x : Nat) (hx : x < 18446744073709551616) : unmix (mix x) = x := by
  unfold unmix mix
  rw [unlast_last _ (again_lt _)]
  have hs := stir_lt x
  have h1 : unm1 (again (stir x)) = stir x ^^^ stir x / 134217728 :=
    mulback _ _ _ (xor_lt _ _ hs (Nat.lt_of_le_of_lt (Nat.div_le_self _ _) hs)) (by decide)
  rw [h1, unagain_again _ hs]
  have h2 : unm2 (stir x) = x ^^^ x / 1073741824 :=
    mulback _ _ _ (xor_lt _ _ hx (Nat.lt_of_le_of_lt (Nat.div_le_self _ _) hx)) (by decide)
  rw [h2, unstir_stir _ hx]
theorem mix_inj (g h : Nat) (hg : g < 18446744073709551616) (hh : h < 18446744073709551616) (e : mix g = mix h) : g = h := by
  rw [← unmix_mix g hg, e, unmix_mix h hh]

/-- One byte more undoes nothing: unlike sums stay unlike. -/
theorem fnv_inj (g h c d : Nat) (hg : g < 18446744073709551616) (hh : h < 18446744073709551616) (hc : c < 18446744073709551616) (hd : d < 18446744073709551616)
    (e : fnv g c = fnv h d) : g ^^^ c = h ^^^ d := by
  have h1 := mulback (g ^^^ c) 1099511628211 14886173955864302971 (xor_lt _ _ hg hc) (by decide)
  have h2 := mulback (h ^^^ d) 1099511628211 14886173955864302971 (xor_lt _ _ hh hd) (by decide)
  unfold fnv at e
  rw [← h1, e, h2]
theorem fnv_inj1 (g h c : Nat) (hg : g < 18446744073709551616) (hh : h < 18446744073709551616) (hc : c < 18446744073709551616)
    (e : fnv g c = fnv h c) : g = h := by
  have h1 := fnv_inj g h c c hg hh hc hc e
  rw [← Nat.xor_zero g, ← Nat.xor_zero h, ← Nat.xor_self c, ← Nat.xor_assoc, ← Nat.xor_assoc, h1]
theorem fon_inj (b : List Nat) (g h : Nat) (hg : g < 18446744073709551616) (hh : h < 18446744073709551616) (hb : ∀ c ∈ b, c < 256)
    (e : fon g b = fon h b) : g = h := by
  induction b generalizing g h with
  | nil => rw [fon_nil, fon_nil] at e; exact e
  | cons c b ih =>
    rw [fon_cons, fon_cons] at e
    have h1 := ih (fnv g c) (fnv h c) (fnv_lt _ _) (fnv_lt _ _) (fun d hd => hb d (List.mem_cons_of_mem _ hd)) e
    exact fnv_inj1 g h c hg hh (Nat.lt_trans (hb c List.mem_cons_self) (by decide)) h1

end Go.Proofs.Ytphhofbdekbggaa
