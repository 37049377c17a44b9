/-
  Decimal digits; digits and Digits.
-/
import Derived.Test.YtphhofbdekbggaaD
import Derived.Laws.Concat
import Derived.Laws.IdiomStrings
import Derived.Deep.RegionWith
namespace Go.Proofs.Ytphhofbdekbggaa
open Go.RowKit
set_option linter.unusedVariables false

/-- The decimal digits of a number, as bytes. -/
def dig (k : Nat) : List Nat := if h : k < 10 then [48 + k] else dig (k / 10) ++ [48 + k % 10]
theorem dig_lt (k : Nat) (h : k < 10) : dig k = [48 + k] := by rw [dig, dif_pos h]
theorem dig_ge (k : Nat) (h : ¬ k < 10) : dig k = dig (k / 10) ++ [48 + k % 10] := by rw [dig, dif_neg h]

theorem digits_33 (k : Nat) : ∀ (h : Nat) (hh : h < 18446744073709551616) (hk : k < 18446744073709551616) (w : World),
    Calls Try.prog 93 #[.int .u64 h, .int .u64 k] w fun e w' => e = .returned (.int .u64 (fon h (dig k) : Nat)) ∧ w' = w := by
  induction k using Nat.strongRecOn with
  | _ k ih =>
    intro h hh hk w
    by_cases h9 : k < 10
    · have hr : (k : Int) % 10 = k := by omega
      have hx := next_27 h (48 + k) hh (by omega)
      have he : fon h (dig k) = fnv h (48 + k) := by rw [dig_lt k h9, fon_cons, fon_nil]
      rw [he]
      have hc : ((48 + k : Nat) : Int) = 48 + (k : Int) := by omega
      rw [hc] at hx
      have hl := fnv_lt h (48 + k)
      generalize fnv h (48 + k) = z at *
      clear he hc ih
      go_enter Try.func93, Try.ntmps93
      go_wp2_with (first | (go_at_call 72; go_must (refine (hx _).mono ?_); rintro e w' ⟨rfl, rfl⟩) | fail)
      go_ret
      exact ⟨rfl, rfl⟩
    · have hi := ih (k / 10) (by omega) h hh (by omega)
      have hl1 := fon_lt h (dig (k / 10)) hh
      have hx := next_27 (fon h (dig (k / 10))) (48 + k % 10) hl1 (by omega)
      have he : fon h (dig k) = fnv (fon h (dig (k / 10))) (48 + k % 10) := by rw [dig_ge k h9, fon_snoc]
      rw [he]
      have hc : ((48 + k % 10 : Nat) : Int) = 48 + (k : Int) % 10 := by omega
      rw [hc] at hx
      have hl := fnv_lt (fon h (dig (k / 10))) (48 + k % 10)
      generalize fnv (fon h (dig (k / 10))) (48 + k % 10) = z at *
      generalize fon h (dig (k / 10)) = y at *
      have hd : ((k / 10 : Nat) : Int) = (k : Int) / 10 := by omega
      rw [hd] at hi
      clear he hc hd ih
      have hg : (9 : Int) < k := by omega
      go_enter Try.func93, Try.ntmps93
      go_wp2_with (first | (go_at_call 72; go_must (refine (hx _).mono ?_); rintro e w' ⟨rfl, rfl⟩) | (go_at_call 93; go_must (refine (hi _).mono ?_); rintro e w' ⟨rfl, rfl⟩) | fail)
      go_ret
      exact ⟨rfl, rfl⟩

/-- Numbers as the cells of bytes have them. -/
def zb (l : List Nat) : List Int := l.map fun (n : Nat) => (n : Int)
theorem zb_app (a b : List Nat) : zb (a ++ b) = zb a ++ zb b := List.map_append
theorem nb_zb (l : List Nat) : nb (zb l) = l := by
  unfold nb zb
  rw [List.map_map, show (Int.toNat ∘ fun (n : Nat) => (n : Int)) = id from by funext n; simp, List.map_id]
theorem zb_bytes {l : List Nat} (h : ∀ n ∈ l, n < 256) : isBytes (zb l) := by
  intro z hz
  obtain ⟨n, hn, rfl⟩ := List.mem_map.1 hz
  have := h n hn
  omega
theorem dig_bytes (k : Nat) : ∀ n ∈ dig k, n < 256 := by
  induction k using Nat.strongRecOn with
  | _ k ih =>
    intro n hn
    by_cases h : k < 10
    · rw [dig_lt k h] at hn; simp at hn; omega
    · rw [dig_ge k h] at hn
      rcases List.mem_append.1 hn with h1 | h1
      · exact ih (k / 10) (by omega) n h1
      · simp at h1; omega
theorem dig_len (k : Nat) (hk : k < 512) : (dig k).length ≤ 3 := by
  by_cases h : k < 10
  · rw [dig_lt k h]; simp
  · rw [dig_ge k h]
    by_cases h2 : k / 10 < 10
    · rw [dig_lt _ h2]; simp
    · rw [dig_ge _ h2, dig_lt (k / 10 / 10) (by omega)]; simp
theorem str_app (xs ys : List Int) : strOfNums xs ++ strOfNums ys = strOfNums (xs ++ ys) := by
  unfold strOfNums
  rw [ByteArray.mk_append_mk, List.map_append]

theorem has_one (w : World) (z : Int) (fr : Nat × Nat) : Has (w.alloc (.cells #[.int .u8 z] 5 fr)) (some ⟨w.heap.size, 0, none⟩) 1 [z] :=
  ⟨rfl, fun _ => ⟨_, _, rfl, fun i hi => by
    obtain rfl : i = 0 := by omega
    rw [cell_of_row _ _ _ _ _ _ (heap_alloc_new w _)]
    rfl⟩⟩

theorem conv_new (w : World) (z : Int) (fr : Nat × Nat) : (convert 45 9 (.slice (some ⟨w.heap.size, 0, none⟩) 1 1)).run Try.prog (w.alloc (.cells #[.int .u8 z] 5 fr)) = .ok (.string (strOfNums [z])) (w.alloc (.cells #[.int .u8 z] 5 fr)) := (has_one w z fr).conv 1

end Go.Proofs.Ytphhofbdekbggaa
