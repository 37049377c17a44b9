/-
  Size, Legal, mayBeLaid.
-/
import Derived.Test.YtgldbdfadjmfeaaIe
namespace Go.Proofs.Ytgldbdfadjmfeaa
open Go.RowKit
set_option linter.unusedVariables false

theorem size_84 (k v : Nat) (hk : k ≤ 4611686018427387904) (hv : v ≤ 4503599627370496) (w : World) : Calls Try.prog 84 #[.int .i64 k, .int .i64 v] w fun y w' => y = .returned (.int .i64 ((58 + k + v : Nat) : Int)) ∧ w' = w := by
  have e : ((58 + k + v : Nat) : Int) = 56 + (k : Int) + v + 2 := by omega
  rw [e]
  go_enter Try.func84, Try.ntmps84
  go_wp2
  go_ret
  exact ⟨rfl, rfl⟩

/-- What Size tells. -/
def SzR (x y n e : Int) : Prop := ((x < 1 ∨ 250 < x) ∧ n = 0 ∧ e = 30) ∨ ((1 ≤ x ∧ x ≤ 250) ∧ (y < 0 ∨ 1048576 < y) ∧ n = 0 ∧ e = 6) ∨ ((1 ≤ x ∧ x ≤ 250) ∧ (0 ≤ y ∧ y ≤ 1048576) ∧ n = 58 + x + y ∧ e = 0)
theorem SzR.ex (x y : Int) : ∃ n e, SzR x y n e := by
  by_cases h1 : 1 ≤ x ∧ x ≤ 250
  · by_cases h2 : 0 ≤ y ∧ y ≤ 1048576
    · exact ⟨_, _, .inr (.inr ⟨h1, h2, rfl, rfl⟩)⟩
    · exact ⟨_, _, .inr (.inl ⟨h1, by omega, rfl, rfl⟩)⟩
  · exact ⟨_, _, .inl ⟨by omega, rfl, rfl⟩⟩
theorem size_42 (x y n e : Int) (h : SzR x y n e) (w : World) : Calls Try.prog 42 #[.int .i64 x, .int .i64 y] w fun z w' => z = .returned (.tuple #[.int .i64 n, .int .i64 e]) ∧ w' = w := by
  rcases h with ⟨h1 | h1, rfl, rfl⟩ | ⟨h1, h2 | h2, rfl, rfl⟩ | ⟨h1, h2, h3, rfl⟩
  · go_enter Try.func42, Try.ntmps42
    go_wp2
    go_ret2
    exact ⟨rfl, rfl⟩
  · go_enter Try.func42, Try.ntmps42
    go_wp2
    go_ret2
    exact ⟨rfl, rfl⟩
  · go_enter Try.func42, Try.ntmps42
    go_wp2
    go_ret2
    exact ⟨rfl, rfl⟩
  · go_enter Try.func42, Try.ntmps42
    go_wp2
    go_ret2
    exact ⟨rfl, rfl⟩
  · obtain ⟨k, rfl⟩ := Int.eq_ofNat_of_zero_le (show 0 ≤ x by omega)
    obtain ⟨v, rfl⟩ := Int.eq_ofNat_of_zero_le (show 0 ≤ y by omega)
    have hs := size_84 k v (by omega) (by omega)
    have e : ((58 + k + v : Nat) : Int) = n := by omega
    rw [e] at hs
    clear h3 e
    go_enter Try.func42, Try.ntmps42
    go_wp2_with (first | (go_at_call 84; go_must (refine (hs _).mono ?_); rintro y w' ⟨rfl, rfl⟩) | fail)
    go_ret2
    exact ⟨rfl, rfl⟩
theorem rsize_43 (x y n e : Int) (h : SzR x y n e) (w : World) : Calls Try.prog 43 #[.int .i64 x, .int .i64 y] w fun z w' => z = .returned (.tuple #[.int .i64 n, .int .i64 e]) ∧ w' = w := by
  rcases h with ⟨h1 | h1, rfl, rfl⟩ | ⟨h1, h2 | h2, rfl, rfl⟩ | ⟨h1, h2, rfl, rfl⟩
  all_goals
    go_enter Try.func43, Try.ntmps43
    go_wp2
    go_ret2
    exact ⟨rfl, rfl⟩

/-- A key that may be. -/
def LegalP (ys : List Int) : Prop := 1 ≤ ys.length ∧ ys.length ≤ 250 ∧ ∀ i, i < ys.length → 33 ≤ ys.getD i 0 ∧ ys.getD i 0 ≠ 127

set_option maxHeartbeats 1000000 in
theorem legal_yes {w : World} {a : Option Addr} {n : Nat} {ys : List Int} (hy : Has w a n ys) (hl : LegalP ys) (c : Nat) : Calls Try.prog 46 #[.slice a n c] w fun y w' => y = .returned (.bool true) ∧ w' = w := by
  obtain ⟨l1, l2, l3⟩ := hl
  have hn := hy.1
  rw [hn] at l1 l2 l3
  obtain ⟨b, o, rfl, hc⟩ := hy.2 (by omega)
  clear hy hn
  go_enter Try.func46, Try.ntmps46
  go_wp2
  go_loopw [15] (fun v wr => ∃ i : Nat, i ≤ n ∧ v = .int .i64 i ∧ wr = w) (fun v _ => n - (intOf v).toNat)
  case atStart => exact ⟨0, by omega, rfl, rfl⟩
  case round =>
    obtain ⟨i, hi, rfl, rfl⟩ := hrel
    by_cases hlt : i < n
    · have hci := hc i hlt
      obtain ⟨z1, z2⟩ := l3 i hlt
      generalize ys.getD i 0 = z at *
      have hd : decide (z ≤ 32) = false := by simp; omega
      have hd2 : decide (z = 127) = false := by simpa using z2
      clear hc l3
      go_wp2
      go_roundw
      case rel => exact ⟨i + 1, by omega, by go_num, trivial⟩
      case measure => simp [intOf]; omega
    · clear hc l3
      go_wp2
      go_ret
      exact ⟨rfl, rfl⟩

set_option maxHeartbeats 1000000 in
theorem legal_no {w : World} {a : Option Addr} {n : Nat} {ys : List Int} (hy : Has w a n ys) (hl : ¬ LegalP ys) (hn9 : n ≤ 140737488351232) (c : Nat) : Calls Try.prog 46 #[.slice a n c] w fun y w' => y = .returned (.bool false) ∧ w' = w := by
  have hn := hy.1
  by_cases h1 : n < 1
  · clear hl
    go_enter Try.func46, Try.ntmps46
    go_wp2
    go_ret
    exact ⟨rfl, rfl⟩
  · by_cases h2 : 250 < n
    · clear hl
      go_enter Try.func46, Try.ntmps46
      go_wp2
      go_ret
      exact ⟨rfl, rfl⟩
    · have l3 : ¬ ∀ i, i < n → 33 ≤ ys.getD i 0 ∧ ys.getD i 0 ≠ 127 := fun h => hl ⟨by omega, by omega, fun i hi => h i (by omega)⟩
      obtain ⟨b, o, rfl, hc⟩ := hy.2 (by omega)
      clear hy hn hl
      go_enter Try.func46, Try.ntmps46
      go_wp2
      go_loopw [15] (fun v wr => ∃ i : Nat, i ≤ n ∧ v = .int .i64 i ∧ wr = w ∧ Hid (∀ j, j < i → 33 ≤ ys.getD j 0 ∧ ys.getD j 0 ≠ 127)) (fun v _ => n - (intOf v).toNat)
      case atStart => exact ⟨0, by omega, rfl, rfl, fun j hj => by omega⟩
      case round =>
        obtain ⟨i, hi, rfl, rfl, hj⟩ := hrel
        by_cases hlt : i < n
        · have hci := hc i hlt
          clear hc l3
          by_cases z1 : ys.getD i 0 ≤ 32
          · generalize ys.getD i 0 = z at *
            go_wp2
            go_ret
            exact ⟨rfl, rfl⟩
          · by_cases z2 : ys.getD i 0 = 127
            · rw [z2] at hci
              clear z1 z2
              go_wp2
              go_ret
              exact ⟨rfl, rfl⟩
            · have HJ : Hid (∀ j, j < i + 1 → 33 ≤ ys.getD j 0 ∧ ys.getD j 0 ≠ 127) := by
                intro j hj2
                by_cases e : j = i
                · subst e; exact ⟨by omega, z2⟩
                · exact hj.out j (by omega)
              clear hj
              generalize ys.getD i 0 = z at *
              have hd : decide (z ≤ 32) = false := by simp; omega
              have hd2 : decide (z = 127) = false := by simpa using z2
              go_wp2
              go_roundw
              case rel => exact ⟨i + 1, by omega, by go_num, trivial, HJ⟩
              case measure => simp [intOf]; omega
        · exact absurd (fun j hj2 => hj.out j (by omega)) l3

set_option maxHeartbeats 1000000 in
theorem rlegal_yes {w : World} {a : Option Addr} {n : Nat} {ys : List Int} (hy : Has w a n ys) (hl : LegalP ys) (c : Nat) : Calls Try.prog 47 #[.slice a n c] w fun y w' => y = .returned (.bool true) ∧ w' = w := by
  obtain ⟨l1, l2, l3⟩ := hl
  have hn := hy.1
  rw [hn] at l1 l2 l3
  obtain ⟨b, o, rfl, hc⟩ := hy.2 (by omega)
  clear hy hn
  have hd250 : decide ((n : Int) ≤ 250) = true := by simp; omega
  go_enter Try.func47, Try.ntmps47
  go_wp2
  go_loopw [3] (fun v wr => ∃ i : Nat, i ≤ n ∧ v = .int .i64 i ∧ wr = w) (fun v _ => n - (intOf v).toNat)
  case atStart => exact ⟨0, by omega, rfl, rfl⟩
  case round =>
    obtain ⟨i, hi, rfl, rfl⟩ := hrel
    by_cases hlt : i < n
    · have hci := hc i hlt
      obtain ⟨z1, z2⟩ := l3 i hlt
      generalize ys.getD i 0 = z at *
      have hd : decide (z ≤ 32) = false := by simp; omega
      have hd2 : decide (z = 127) = false := by simpa using z2
      clear hc l3
      go_wp2
      go_roundw
      case rel => exact ⟨i + 1, by omega, by go_num, trivial⟩
      case measure => simp [intOf]; omega
    · clear hc l3
      go_wp2
      go_ret
      exact ⟨rfl, rfl⟩

set_option maxHeartbeats 1000000 in
theorem rlegal_no {w : World} {a : Option Addr} {n : Nat} {ys : List Int} (hy : Has w a n ys) (hl : ¬ LegalP ys) (hn9 : n ≤ 140737488351232) (c : Nat) : Calls Try.prog 47 #[.slice a n c] w fun y w' => y = .returned (.bool false) ∧ w' = w := by
  have hn := hy.1
  have l3 : 1 ≤ n → n ≤ 250 → ¬ ∀ i, i < n → 33 ≤ ys.getD i 0 ∧ ys.getD i 0 ≠ 127 := fun h1 h2 h => hl ⟨by omega, by omega, fun i hi => h i (by omega)⟩
  have hc := hy.2
  clear hy hn hl
  go_enter Try.func47, Try.ntmps47
  go_wp2
  go_loopw [3] (fun v wr => ∃ i : Nat, i ≤ n ∧ v = .int .i64 i ∧ wr = w ∧ Hid (∀ j, j < i → 33 ≤ ys.getD j 0 ∧ ys.getD j 0 ≠ 127)) (fun v _ => n - (intOf v).toNat)
  case atStart => exact ⟨0, by omega, rfl, rfl, fun j hj => by omega⟩
  case round =>
    obtain ⟨i, hi, rfl, rfl, hj⟩ := hrel
    by_cases hlt : i < n
    · obtain ⟨b, o, rfl, hc'⟩ := hc (by omega)
      have hci := hc' i hlt
      clear hc hc' l3
      by_cases z1 : ys.getD i 0 ≤ 32
      · generalize ys.getD i 0 = z at *
        go_wp2
        go_ret
        exact ⟨rfl, rfl⟩
      · by_cases z2 : ys.getD i 0 = 127
        · rw [z2] at hci
          clear z1 z2
          go_wp2
          go_ret
          exact ⟨rfl, rfl⟩
        · have HJ : Hid (∀ j, j < i + 1 → 33 ≤ ys.getD j 0 ∧ ys.getD j 0 ≠ 127) := by
            intro j hj2
            by_cases e : j = i
            · subst e; exact ⟨by omega, z2⟩
            · exact hj.out j (by omega)
          clear hj
          generalize ys.getD i 0 = z at *
          have hd : decide (z ≤ 32) = false := by simp; omega
          have hd2 : decide (z = 127) = false := by simpa using z2
          go_wp2
          go_roundw
          case rel => exact ⟨i + 1, by omega, by go_num, trivial, HJ⟩
          case measure => simp [intOf]; omega
    · obtain rfl : i = n := by omega
      by_cases h1 : 1 ≤ i
      · by_cases h2 : i ≤ 250
        · exact absurd (fun j hj2 => hj.out j (by omega)) (l3 h1 h2)
        · clear l3 hc hj
          have hd250 : decide ((i : Int) ≤ 250) = false := by simp; omega
          go_wp2
          go_ret
          exact ⟨rfl, rfl⟩
      · clear l3 hc hj
        go_wp2
        go_ret
        exact ⟨rfl, rfl⟩

/-- An item, as a value. -/
def itV (ka : Option Addr) (kn kc : Nat) (va : Option Addr) (vn vc : Nat) (fl ex to tk st mk : Int) : Value := .agg #[.slice ka kn kc, .slice va vn vc, .int .u64 fl, .int .i64 ex, .int .i64 to, .int .u64 tk, .int .i64 st, .int .i64 mk]
/-- Numbers within their bounds. -/
structure Bnd (fl ex to st mk : Int) : Prop where
  f : 0 ≤ fl ∧ fl ≤ 4294967295
  e : 0 ≤ ex ∧ ex < 9223372036854775808
  t : 0 ≤ to ∧ to < 9223372036854775808
  s : 1 ≤ st ∧ st ≤ 4
  m : 0 ≤ mk ∧ mk ≤ 15

theorem isState_yes (n : Int) (h : 1 ≤ n ∧ n ≤ 4) (w : World) : Calls Try.prog 133 #[.int .i64 n] w fun y w' => y = .returned (.bool true) ∧ w' = w := by
  go_enter Try.func133, Try.ntmps133
  go_wp2
  go_ret
  exact ⟨rfl, rfl⟩
theorem isMarks_yes (n : Int) (h : 0 ≤ n ∧ n ≤ 15) (w : World) : Calls Try.prog 134 #[.int .i64 n] w fun y w' => y = .returned (.bool true) ∧ w' = w := by
  go_enter Try.func134, Try.ntmps134
  go_wp2
  go_ret
  exact ⟨rfl, rfl⟩
theorem isFlags_yes (n : Int) (h : 0 ≤ n ∧ n ≤ 4294967295) (w : World) : Calls Try.prog 135 #[.int .u64 n] w fun y w' => y = .returned (.bool true) ∧ w' = w := by
  go_enter Try.func135, Try.ntmps135
  go_wp2
  go_ret
  exact ⟨rfl, rfl⟩
theorem isTick_yes (n : Int) (h : 0 ≤ n) (w : World) : Calls Try.prog 136 #[.int .i64 n] w fun y w' => y = .returned (.bool true) ∧ w' = w := by
  go_enter Try.func136, Try.ntmps136
  go_wp2
  go_ret
  exact ⟨rfl, rfl⟩
set_option maxRecDepth 100000 in
set_option maxHeartbeats 1000000 in
theorem mayBeLaid_yes (ka : Option Addr) (kn kc : Nat) (va : Option Addr) (vn vc : Nat) (fl ex to tk st mk : Int) (h : Bnd fl ex to st mk) (w : World) : Calls Try.prog 93 #[itV ka kn kc va vn vc fl ex to tk st mk] w fun y w' => y = .returned (.bool true) ∧ w.grownBy w' none := by
  have hal := World.grownBy_alloc w (.cells #[.slice ka kn kc, .slice va vn vc, .int .u64 fl, .int .i64 ex, .int .i64 to, .int .u64 tk, .int .i64 st, .int .i64 mk] 94) none
  have h1 := isState_yes st h.s
  have h2 := isMarks_yes mk h.m
  have h3 := isFlags_yes fl h.f
  have h4 := isTick_yes ex h.e.1
  have h5 := isTick_yes to h.t.1
  unfold itV
  go_enter Try.func93, Try.ntmps93
  go_wp2_with (first | (go_at_call 133; go_must (refine (h1 _).mono ?_); rintro y w' ⟨rfl, rfl⟩) | (go_at_call 134; go_must (refine (h2 _).mono ?_); rintro y w' ⟨rfl, rfl⟩) | (go_at_call 135; go_must (refine (h3 _).mono ?_); rintro y w' ⟨rfl, rfl⟩) | (go_at_call 136; with_reducible refine (h4 _).mono ?_; rintro y w' ⟨rfl, rfl⟩) | (go_at_call 136; with_reducible refine (h5 _).mono ?_; rintro y w' ⟨rfl, rfl⟩) | fail)
  go_ret
  exact ⟨rfl, hal⟩

end Go.Proofs.Ytgldbdfadjmfeaa
