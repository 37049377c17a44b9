/-
  Sums of bytes in memory.
-/
import Derived.Test.YtphhofbdekbggaaC
namespace Go.Proofs.Ytphhofbdekbggaa
open Go.RowKit
set_option linter.unusedVariables false

/-- Bytes, as numbers without a sign. -/
def nb (xs : List Int) : List Nat := xs.map Int.toNat
theorem nb_app (xs ys : List Int) : nb (xs ++ ys) = nb xs ++ nb ys := List.map_append
theorem nb_take_succ (xs : List Int) (k : Nat) (h : k < xs.length) : nb (xs.take (k + 1)) = nb (xs.take k) ++ [(xs.getD k 0).toNat] := by
  rw [List.take_add_one, List.getElem?_eq_getElem h, nb_app]
  simp [nb, List.getD, h]
theorem nb_take_all (xs : List Int) : nb (xs.take xs.length) = nb xs := by rw [List.take_length]
theorem byte_at {xs : List Int} (hb : isBytes xs) (k : Nat) (h : k < xs.length) : ∃ c : Nat, xs.getD k 0 = (c : Int) ∧ c < 256 ∧ (xs.getD k 0).toNat = c := by
  have := hb _ (getD_mem h)
  exact ⟨(xs.getD k 0).toNat, by omega, by omega, rfl⟩
/-- The sum of bytes. -/
def sumB (xs : List Int) : Nat := fon 14695981039346656037 (nb xs)
theorem sumB_lt (xs : List Int) : sumB xs < 18446744073709551616 := fon_lt _ _ (by decide)

theorem sum_11 {w : World} {a : Option Addr} {n : Nat} {xs : List Int} (hy : Has w a n xs) (hb : isBytes xs) (c : Nat) (hn : n ≤ 281474976710656) :
    Calls Try.prog 54 #[.slice a n c] w fun e w' => e = .returned (.int .u64 (sumB xs : Nat)) ∧ w' = w := by
  obtain ⟨hl, hcs⟩ := hy
  go_enter Try.func54, Try.ntmps54
  go_wp2
  go_loopw [3, 8] (fun x y wr => ∃ (h k : Nat), h < 18446744073709551616 ∧ k ≤ n ∧ x = .int .u64 h ∧ y = .int .i64 k ∧ h = fon 14695981039346656037 (nb (xs.take k)) ∧ wr = w) (fun _ y _ => n - (intOf y).toNat)
  case atStart => exact ⟨14695981039346656037, 0, by decide, by omega, rfl, rfl, by rw [List.take_zero]; exact (fon_nil _).symm, rfl⟩
  case round =>
    obtain ⟨h, k, hh, hk, rfl, rfl, he, rfl⟩ := hrel
    have HE : Hid (h = fon 14695981039346656037 (nb (xs.take k))) := he
    clear he
    by_cases hlt : k < n
    · obtain ⟨b, o, rfl, hcc⟩ := hcs (by omega)
      have hc := hcc k hlt
      obtain ⟨z, hz, hz2, hz3⟩ := byte_at hb k (by omega)
      have HR : Hid (fnv h z = fon 14695981039346656037 (nb (xs.take (k + 1)))) := by
        show _ = _
        rw [nb_take_succ _ _ (by omega), fon_snoc, ← HE.out, hz3]
      rw [hz] at hc
      have hx := next_27 h z hh hz2
      have hx2 := fnv_lt h z
      generalize fnv h z = h2 at *
      clear hcc hcs hb hz hz3 HE
      go_wp2_with (first | (go_at_call 72; go_must (refine (hx _).mono ?_); rintro e w' ⟨rfl, rfl⟩) | fail)
      go_roundw
      case rel => exact ⟨h2, k + 1, hx2, by omega, rfl, by go_num, HR.out, by first | rfl | trivial⟩
      case measure => simp [intOf]; omega
    · obtain rfl : k = n := by omega
      have HR : Hid (h = sumB xs) := by
        show _ = _
        rw [HE.out, ← hl, nb_take_all]; rfl
      clear hcs hb HE
      go_wp2
      go_ret
      exact ⟨by rw [← HR.out]; rfl, rfl⟩

theorem sum_12 {w : World} {a : Option Addr} {n : Nat} {xs : List Int} (hy : Has w a n xs) (hb : isBytes xs) (c : Nat) (hn : n ≤ 281474976710656) :
    Calls Try.prog 27 #[.slice a n c] w fun e w' => e = .returned (.int .u64 (sumB xs : Nat)) ∧ w' = w := by
  obtain ⟨hl, hcs⟩ := hy
  go_enter Try.func27, Try.ntmps27
  go_wp2
  go_loopw [3, 4] (fun x y wr => ∃ (h k : Nat), h < 18446744073709551616 ∧ k ≤ n ∧ x = .int .u64 h ∧ y = .int .i64 k ∧ h = fon 14695981039346656037 (nb (xs.take k)) ∧ wr = w) (fun _ y _ => n - (intOf y).toNat)
  case atStart => exact ⟨14695981039346656037, 0, by decide, by omega, rfl, rfl, by rw [List.take_zero]; exact (fon_nil _).symm, rfl⟩
  case round =>
    obtain ⟨h, k, hh, hk, rfl, rfl, he, rfl⟩ := hrel
    have HE : Hid (h = fon 14695981039346656037 (nb (xs.take k))) := he
    clear he
    by_cases hlt : k < n
    · obtain ⟨b, o, rfl, hcc⟩ := hcs (by omega)
      have hc := hcc k hlt
      obtain ⟨z, hz, hz2, hz3⟩ := byte_at hb k (by omega)
      have HR : Hid (fnv h z = fon 14695981039346656037 (nb (xs.take (k + 1)))) := by
        show _ = _
        rw [nb_take_succ _ _ (by omega), fon_snoc, ← HE.out, hz3]
      rw [hz] at hc
      have hx := on_28 h z hh hz2
      have hx2 := fnv_lt h z
      generalize fnv h z = h2 at *
      clear hcc hcs hb hz hz3 HE
      go_wp2_with (first | (go_at_call 43; go_must (refine (hx _).mono ?_); rintro e w' ⟨rfl, rfl⟩) | fail)
      go_roundw
      case rel => exact ⟨h2, k + 1, hx2, by omega, rfl, by go_num, HR.out, by first | rfl | trivial⟩
      case measure => simp [intOf]; omega
    · obtain rfl : k = n := by omega
      have HR : Hid (h = sumB xs) := by
        show _ = _
        rw [HE.out, ← hl, nb_take_all]; rfl
      clear hcs hb HE
      go_wp2
      go_ret
      exact ⟨by rw [← HR.out]; rfl, rfl⟩

end Go.Proofs.Ytphhofbdekbggaa
