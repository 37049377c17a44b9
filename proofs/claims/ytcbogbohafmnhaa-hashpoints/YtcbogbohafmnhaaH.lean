/-
  Decimal digits; digits and Digits.
-/
import Derived.Test.YtcbogbohafmnhaaG
import Derived.Laws.Concat
import Derived.Laws.IdiomStrings
import Derived.Deep.RegionWith
namespace Go.Proofs.Ytcbogbohafmnhaa
open Go.RowKit
set_option linter.unusedVariables false

/-- The decimal digits of a number, as bytes. -/
def dig (k : Nat) : List Nat := if h : k < 10 then [48 + k] else dig (k / 10) ++ [48 + k % 10]
theorem dig_lt (k : Nat) (h : k < 10) : dig k = [48 + k] := by rw [dig, dif_pos h]
theorem dig_ge (k : Nat) (h : ¬ k < 10) : dig k = dig (k / 10) ++ [48 + k % 10] := by rw [dig, dif_neg h]

theorem digits_33 (k : Nat) : ∀ (h : Nat) (hh : h < 18446744073709551616) (hk : k < 18446744073709551616) (w : World),
    Calls Try.prog 33 #[.int .u64 h, .int .u64 k] w fun e w' => e = .returned (.int .u64 (fon h (dig k) : Nat)) ∧ w' = w := by
  induction k using Nat.strongRecOn with
  | _ k ih =>
    intro h hh hk w
    by_cases h9 : k < 10
    · have hr : (k : Int) % 10 = k := by omega
      have hx := next_27 h (48 + k) hh (by omega)
      have he : fon h (dig k) = fnv h (48 + k) := by rw [dig_lt k h9, fon_cons, fon_nil]
      rw [he]
      have hc : ((48 + k : Nat) : Int) = 48 + (k : Int) := by omega
      rw [hc] at hx
      have hl := fnv_lt h (48 + k)
      generalize fnv h (48 + k) = z at *
      clear he hc ih
      go_enter Try.func33, Try.ntmps33
      go_wp2_with (first | (go_at_call 27; go_must (refine (hx _).mono ?_); rintro e w' ⟨rfl, rfl⟩) | fail)
      go_ret
      exact ⟨rfl, rfl⟩
    · have hi := ih (k / 10) (by omega) h hh (by omega)
      have hl1 := fon_lt h (dig (k / 10)) hh
      have hx := next_27 (fon h (dig (k / 10))) (48 + k % 10) hl1 (by omega)
      have he : fon h (dig k) = fnv (fon h (dig (k / 10))) (48 + k % 10) := by rw [dig_ge k h9, fon_snoc]
      rw [he]
      have hc : ((48 + k % 10 : Nat) : Int) = 48 + (k : Int) % 10 := by omega
      rw [hc] at hx
      have hl := fnv_lt (fon h (dig (k / 10))) (48 + k % 10)
      generalize fnv (fon h (dig (k / 10))) (48 + k % 10) = z at *
      generalize fon h (dig (k / 10)) = y at *
      have hd : ((k / 10 : Nat) : Int) = (k : Int) / 10 := by omega
      rw [hd] at hi
      clear he hc hd ih
      have hg : (9 : Int) < k := by omega
      go_enter Try.func33, Try.ntmps33
      go_wp2_with (first | (go_at_call 27; go_must (refine (hx _).mono ?_); rintro e w' ⟨rfl, rfl⟩) | (go_at_call 33; go_must (refine (hi _).mono ?_); rintro e w' ⟨rfl, rfl⟩) | fail)
      go_ret
      exact ⟨rfl, rfl⟩

/-- Numbers as the cells of bytes have them. -/
def zb (l : List Nat) : List Int := l.map fun (n : Nat) => (n : Int)
theorem zb_app (a b : List Nat) : zb (a ++ b) = zb a ++ zb b := List.map_append
theorem nb_zb (l : List Nat) : nb (zb l) = l := by
  unfold nb zb
  rw [List.map_map, show (Int.toNat ∘ fun (n : Nat) => (n : Int)) = id from by funext n; simp, List.map_id]
theorem zb_bytes {l : List Nat} (h : ∀ n ∈ l, n < 256) : isBytes (zb l) := by
  intro z hz
  obtain ⟨n, hn, rfl⟩ := List.mem_map.1 hz
  have := h n hn
  omega
theorem dig_bytes (k : Nat) : ∀ n ∈ dig k, n < 256 := by
  induction k using Nat.strongRecOn with
  | _ k ih =>
    intro n hn
    by_cases h : k < 10
    · rw [dig_lt k h] at hn; simp at hn; omega
    · rw [dig_ge k h] at hn
      rcases List.mem_append.1 hn with h1 | h1
      · exact ih (k / 10) (by omega) n h1
      · simp at h1; omega
theorem dig_len (k : Nat) (hk : k < 512) : (dig k).length ≤ 3 := by
  by_cases h : k < 10
  · rw [dig_lt k h]; simp
  · rw [dig_ge k h]
    by_cases h2 : k / 10 < 10
    · rw [dig_lt _ h2]; simp
    · rw [dig_ge _ h2, dig_lt (k / 10 / 10) (by omega)]; simp
theorem str_app (xs ys : List Int) : strOfNums xs ++ strOfNums ys = strOfNums (xs ++ ys) := by
  unfold strOfNums
  rw [ByteArray.mk_append_mk, List.map_append]

theorem conv_new (w : World) (z : Int) (fr : Nat × Nat) : (convert 23 9 (.slice (some ⟨w.heap.size, 0, none⟩) 1 1)).run Try.prog (w.alloc (.cells #[.int .u8 z] 5 fr)) = .ok (.string (strOfNums [z])) (w.alloc (.cells #[.int .u8 z] 5 fr)) := (has_one w z fr).conv 1

set_option maxRecDepth 100000 in
theorem digits_34 (k : Nat) : ∀ (hk : k < 512) (w : World),
    Calls Try.prog 34 #[.int .i64 k] w fun e w' => e = .returned (.string (strOfNums (zb (dig k)))) ∧ w.grownBy w' none := by
  induction k using Nat.strongRecOn with
  | _ k ih =>
    intro hk w
    by_cases h9 : k < 10
    · have he : zb (dig k) = [48 + (k : Int)] := by rw [dig_lt k h9]; simp [zb]
      rw [he]
      have hcv := conv_new w (48 + (k : Int)) (0, 0)
      clear he ih
      go_enter Try.func34, Try.ntmps34
      go_wp2
      go_ret
      exact ⟨rfl, gb_alloc (gb_refl _ _) _⟩
    · have hi := ih (k / 10) (by omega) (by omega)
      have he : zb (dig k) = zb (dig (k / 10)) ++ [48 + (k : Int) % 10] := by
        rw [dig_ge k h9, zb_app]
        simp [zb]
      have hd : ((k / 10 : Nat) : Int) = (k : Int) / 10 := by omega
      rw [hd] at hi
      rw [he, ← str_app]
      have hsz : (strOfNums (zb (dig (k / 10)))).size ≤ 3 := by
        rw [strOfNums_size]
        have := dig_len (k / 10) (by omega)
        simpa [zb] using this
      generalize strOfNums (zb (dig (k / 10))) = s at *
      clear he hd ih
      have hsz1 : (strOfNums [48 + (k : Int) % 10]).size = 1 := by rw [strOfNums_size]; rfl
      generalize hz : (k : Int) % 10 = z at *
      have HZ : Hid ((k : Int) % 10 = z) := hz
      have hz0 : 0 ≤ z ∧ z < 10 := by omega
      have hone : Has (w.alloc (.cells #[.int .u8 (48 + z)] 5)).drew (some ⟨w.heap.size, 0, none⟩) 1 [48 + z] := has_one w (48 + z) (0, 0)
      have hcv := hone.conv 1
      have hw1 : IntKind.i64.wrap ((k : Int) / 10) = (k : Int) / 10 := by rw [IntKind.wrap_i64]; omega
      have hw2 : IntKind.i64.wrap (48 + z) = 48 + z := by rw [IntKind.wrap_i64]; omega
      have hw3 : IntKind.u8.wrap (48 + z) = 48 + z := by rw [IntKind.wrap_u8']; omega
      have ht : (k : Int).tmod 10 = z := by rw [Int.tmod_eq_emod_of_nonneg (by omega)]; exact hz
      go_enter Try.func34, Try.ntmps34
      go_wp2
      go_region_with (go_at_call 34; refine (hi _).mono ?_; rintro e w1 ⟨rfl, hf⟩; first | (have hcw := (hone.kept0 hf).conv 1) | (have hcx := conv_new w1 (48 + z) (0, 0)))
      all_goals go_wp2
      all_goals go_ret
      · exact ⟨rfl, gb_alloc (gb_trans (gb_drew (gb_refl w none)) hf) _⟩
      · exact ⟨rfl, gb_trans (gb_drew (gb_alloc (gb_refl w none) _)) hf⟩
      · exact ⟨rfl, gb_trans (gb_drew (gb_alloc (gb_refl w none) _)) hf⟩
end Go.Proofs.Ytcbogbohafmnhaa
