import Derived.Test.YtoaaaeefcipdcaaA
/-
  The contract of (*Arena).part: the bytes are there, or they are not.
-/
namespace Go.Proofs.Ytoaaaeefcipdcaa
open Go.RowKit
set_option linter.unusedVariables false

theorem mask_i64 (k : Nat) (hk : k ≤ 30) (x : Int) (h0 : 0 ≤ x) (h1 : x < 9223372036854775808) : bits .and .i64 x ((2 : Int) ^ k - 1) = x % (2 : Int) ^ k := by
  have := bits_mask .i64 63 (by decide) (fun n h0 h1 => by rw [IntKind.wrap_i64]; omega) k (by omega) x h0 (by omega)
  exact this

set_option maxHeartbeats 400000 in
theorem part_yes (b g N ps : Nat) (x n r : Int) (w : World) (hps : 4096 ≤ ps ∧ ps ≤ 1048576) (hN : N ≤ 1073741824)
    (hc0 : w.cell? ⟨b, 0, none⟩ = some (.int .i64 ps)) (hc2 : w.cell? ⟨b, 2, none⟩ = some (.slice (some ⟨g, 0, none⟩) N N))
    (hm : bits .and .i64 x ((ps : Int) - 1) = r) (hr : 0 ≤ r) (h0 : 0 ≤ n) (h1 : 0 ≤ x) (h2 : n ≤ N - x) (h3 : r + n ≤ ps) :
    Calls Try.prog 116 #[.pointer (some ⟨b, 0, none⟩), .int .i64 x, .int .i64 n] w fun e w' => (∃ o, e = .returned (.tuple #[.slice (some ⟨g, o, none⟩) n.toNat (N - x.toNat), .bool true]) ∧ (0 < n → o = x.toNat)) ∧ ∃ q, w' = w.drewN q := by
  have hl : (x + n).toNat - x.toNat = n.toNat := by omega
  go_enter Try.func116, Try.ntmps116
  go_wp2
  go_quiet (fail)
  by_cases hx : N = x.toNat
  · have hx' : N - x.toNat = 0 := by omega
    clear hx
    go_wp2
    go_ret2
    exact ⟨⟨0, by first | rfl | (rw [hx']; rfl) | (simp [hx']), fun h => by omega⟩, _, rfl⟩
  · go_wp2
    go_ret2
    exact ⟨⟨x.toNat, rfl, fun _ => rfl⟩, _, rfl⟩

set_option maxHeartbeats 400000 in
theorem part_no (b g N ps : Nat) (x n r : Int) (w : World) (hps : 4096 ≤ ps ∧ ps ≤ 1048576) (hN : N ≤ 1073741824)
    (hc0 : w.cell? ⟨b, 0, none⟩ = some (.int .i64 ps)) (hc2 : w.cell? ⟨b, 2, none⟩ = some (.slice (some ⟨g, 0, none⟩) N N))
    (hm : 0 ≤ x → bits .and .i64 x ((ps : Int) - 1) = r) (hr : 0 ≤ r ∧ r ≤ ps) (hx : x ≤ 9223372036854775807) (h : n < 0 ∨ x < 0 ∨ N - x < n ∨ ps < r + n) :
    Calls Try.prog 116 #[.pointer (some ⟨b, 0, none⟩), .int .i64 x, .int .i64 n] w fun e w' => e = .returned (.tuple #[.slice none 0 0, .bool false]) ∧ ∃ q, w' = w.drewN q := by
  by_cases h0 : n < 0
  · clear h hm
    go_enter Try.func116, Try.ntmps116
    go_wp2
    go_ret2
    exact ⟨rfl, 0, rfl⟩
  by_cases h1 : x < 0
  · clear h hm
    go_enter Try.func116, Try.ntmps116
    go_wp2
    go_ret2
    exact ⟨rfl, 0, rfl⟩
  have hm := hm (by omega)
  by_cases h2 : N - x < n
  · clear h hm
    go_enter Try.func116, Try.ntmps116
    go_wp2
    go_ret2
    exact ⟨rfl, 0, rfl⟩
  have h3 : ps < r + n := by omega
  clear h
  go_enter Try.func116, Try.ntmps116
  go_wp2
  go_quiet (fail)
  go_wp2
  go_ret2
  exact ⟨rfl, _, rfl⟩

end Go.Proofs.Ytoaaaeefcipdcaa
