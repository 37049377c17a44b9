/-
  Compare, and what the ring compares by.
-/
import Derived.Test.YtphhofbdekbggaaI
import Derived.Sort.Grow
import Derived.Deep.RegionHeld3
import Derived.Deep.MidRow
namespace Go.Proofs.Ytphhofbdekbggaa
open Go.RowKit
set_option linter.unusedVariables false
set_option linter.unusedSimpArgs false

theorem isnan_62 (s : ByteArray) (w : World) : Calls Try.prog 62 #[.string s] w fun e w' => e = .returned (.bool false) ∧ w' = w := by
  go_enter Try.func62, Try.ntmps62
  go_wp2
  go_ret
  simp
theorem isnan_73 (n : Int) (w : World) : Calls Try.prog 73 #[.int .u32 n] w fun e w' => e = .returned (.bool false) ∧ w' = w := by
  go_enter Try.func73, Try.ntmps73
  go_wp2
  go_ret
  simp
theorem isnan_86 (n : Int) (w : World) : Calls Try.prog 86 #[.int .i64 n] w fun e w' => e = .returned (.bool false) ∧ w' = w := by
  go_enter Try.func86, Try.ntmps86
  go_wp2
  go_ret
  simp
/-- What Compare answers of two numbers. -/
def cmpI (m n : Int) : Int := if m < n then -1 else if n < m then 1 else 0
theorem cmp_57 (m n : Int) (w : World) : Calls Try.prog 57 #[.int .u32 m, .int .u32 n] w fun e w' => e = .returned (.int .i64 (cmpI m n)) ∧ w' = w := by
  go_enter Try.func57, Try.ntmps57
  go_wp2_with (first | (go_at_call 73; refine (isnan_73 _ _).mono ?_; rintro y w1 ⟨rfl, rfl⟩) | fail)
  · go_ret
    have h1 : m < n := by assumption
    simp [cmpI, h1]
  · go_ret
    have h1 : n < m := by assumption
    have h2 : ¬ m < n := by omega
    simp [cmpI, h1, h2]
  · go_ret
    have h1 : ¬ m < n := by omega
    have h2 : ¬ n < m := by omega
    simp [cmpI, h1, h2]
theorem cmp_67 (m n : Int) (w : World) : Calls Try.prog 67 #[.int .i64 m, .int .i64 n] w fun e w' => e = .returned (.int .i64 (cmpI m n)) ∧ w' = w := by
  go_enter Try.func67, Try.ntmps67
  go_wp2_with (first | (go_at_call 86; refine (isnan_86 _ _).mono ?_; rintro y w1 ⟨rfl, rfl⟩) | fail)
  · go_ret
    have h1 : m < n := by assumption
    simp [cmpI, h1]
  · go_ret
    have h1 : n < m := by assumption
    have h2 : ¬ m < n := by omega
    simp [cmpI, h1, h2]
  · go_ret
    have h1 : ¬ m < n := by omega
    have h2 : ¬ n < m := by omega
    simp [cmpI, h1, h2]
/-- What Compare answers of two strings. -/
def cmpS (s t : ByteArray) : Int := if Op.bytesLess s.toList t.toList then -1 else if s.toList = t.toList then 0 else 1
theorem cmp_47 (s t : ByteArray) (w : World) : Calls Try.prog 47 #[.string s, .string t] w fun e w' => e = .returned (.int .i64 (cmpS s t)) ∧ w' = w := by
  go_enter Try.func47, Try.ntmps47
  go_wp2_with (first | (go_at_call 62; refine (isnan_62 _ _).mono ?_; rintro y w1 ⟨rfl, rfl⟩) | fail)
  · go_ret
    have h1 : Op.bytesLess s.toList t.toList = true := by assumption
    simp [cmpS, h1]
  · go_ret
    have h1 : Op.bytesLess s.toList t.toList = false := by assumption
    have h2 : (!s.toList == t.toList) = true := by assumption
    have h3 : ¬ s.toList = t.toList := by simpa using h2
    simp [cmpS, h1, h3]
  · go_ret
    have h1 : Op.bytesLess s.toList t.toList = false := by assumption
    have h2 : (!s.toList == t.toList) = false := by assumption
    have h3 : s.toList = t.toList := by simpa using h2
    rw [h3] at h1
    simp [cmpS, h1, h3]

theorem clo_46 (s t : ByteArray) (a b : Int) (w : World) : Calls Try.prog 46 #[.agg #[.string s, .int .i64 a], .agg #[.string t, .int .i64 b]] w fun e w' => e = .returned (.int .i64 (cmpS s t)) ∧ ∃ q os, w' = Sort.grow (w.drewN q) os := by
  go_enter Try.func46, Try.ntmps46
  go_wp2_with (go_at_call 47; refine (cmp_47 _ _ _).mono ?_; rintro y w1 ⟨rfl, rfl⟩)
  go_ret
  exact ⟨rfl, 0, _, by rw [Sort.alloc_eq_grow, Sort.alloc_eq_grow, Sort.grow_grow]; rfl⟩
theorem clo_49 (s t : ByteArray) (a : Int) (w : World) : Calls Try.prog 49 #[.agg #[.string s, .int .i64 a], .string t] w fun e w' => e = .returned (.int .i64 (cmpS s t)) ∧ ∃ q os, w' = Sort.grow (w.drewN q) os := by
  go_enter Try.func49, Try.ntmps49
  go_wp2_with (go_at_call 47; refine (cmp_47 _ _ _).mono ?_; rintro y w1 ⟨rfl, rfl⟩)
  go_ret
  exact ⟨rfl, 0, _, by rw [Sort.alloc_eq_grow]; rfl⟩
theorem clo_56 (a s r m : Int) (w : World) : Calls Try.prog 56 #[.agg #[.int .u32 a, .int .i64 s, .int .i64 r], .int .u32 m] w fun e w' => e = .returned (.int .i64 (cmpI a m)) ∧ ∃ q os, w' = Sort.grow (w.drewN q) os := by
  go_enter Try.func56, Try.ntmps56
  go_wp2_with (go_at_call 57; refine (cmp_57 _ _ _).mono ?_; rintro y w1 ⟨rfl, rfl⟩)
  go_ret
  exact ⟨rfl, 0, _, by rw [Sort.alloc_eq_grow]; rfl⟩
theorem clo_69 (a s r a' s' r' : Int) (w : World) : Calls Try.prog 69 #[.agg #[.int .u32 a, .int .i64 s, .int .i64 r], .agg #[.int .u32 a', .int .i64 s', .int .i64 r']] w fun e w' => e = .returned (.bool (decide (a = a'))) ∧ ∃ q os, w' = Sort.grow (w.drewN q) os := by
  go_enter Try.func69, Try.ntmps69
  go_wp2
  go_ret
  refine ⟨?_, 0, _, by rw [Sort.alloc_eq_grow, Sort.alloc_eq_grow, Sort.grow_grow]; rfl⟩
  simp only [Ending.returned.injEq, Value.bool.injEq]
  by_cases h : a = a' <;> simp [h]
/-- The first of two numbers that is not 0. -/
def orI (a b : Int) : Int := if a = 0 then b else a
set_option maxHeartbeats 1000000 in
theorem or_66 (g c : Nat) (w : World) (a b : Int) (h0 : w.cell? ⟨g, 0, none⟩ = some (.int .i64 a)) (h1 : w.cell? ⟨g, 1, none⟩ = some (.int .i64 b)) : Calls Try.prog 66 #[.slice (some ⟨g, 0, none⟩) 2 c] w fun e w' => e = .returned (.int .i64 (orI a b)) ∧ w' = w := by
  go_enter Try.func66, Try.ntmps66
  go_wp2_with fail
  go_loopw [5, 8] (fun _ x wr => ∃ (k : Nat), k ≤ 2 ∧ x = .int .i64 k ∧ (0 < k → a = 0) ∧ (1 < k → b = 0) ∧ wr = w) (fun _ x _ => 2 - (intOf x).toNat)
  case atStart => exact ⟨0, by omega, rfl, by omega, by omega, rfl⟩
  case round =>
    obtain ⟨k, hk, rfl, hka, hkb, rfl⟩ := hrel
    match k, hk, hka, hkb with
    | 0, _, _, _ =>
      go_wp2_with fail
      · have ha : ¬ a = 0 := by simp_all
        have hr : orI a b = a := by simp [orI, ha]
        go_ret
        simp [hr]
      · go_roundw
        case rel =>
          have ha : a = 0 := by simp_all
          exact ⟨1, by omega, rfl, fun _ => ha, by omega, trivial⟩
        case measure => simp [intOf]
    | 1, _, ha, _ =>
      have ha := ha (by omega)
      go_wp2_with fail
      · have hr : orI a b = b := by simp [orI, ha]
        go_ret
        simp [hr]
      · go_roundw
        case rel =>
          have hb : b = 0 := by simp_all
          exact ⟨2, by omega, rfl, fun _ => ha, fun _ => hb, trivial⟩
        case measure => simp [intOf]
    | 2, _, ha, hb =>
      have ha := ha (by omega)
      have hb := hb (by omega)
      go_wp2_with fail
      have hr : orI a b = 0 := by simp [orI, ha, hb]
      go_ret
      simp [hr]
set_option maxHeartbeats 1000000 in
theorem clo_65 (a s r a' s' r' : Int) (w : World) : Calls Try.prog 65 #[.agg #[.int .u32 a, .int .i64 s, .int .i64 r], .agg #[.int .u32 a', .int .i64 s', .int .i64 r']] w fun e w' => e = .returned (.int .i64 (orI (cmpI a a') (cmpI s s'))) ∧ ∃ q os, w' = Sort.grow (w.drewN q) os := by
  have h57 := cmp_57 a a'
  have h67 := cmp_67 s s'
  generalize cmpI a a' = x at *
  generalize cmpI s s' = y at *
  go_enter Try.func65, Try.ntmps65
  go_wp2_with (first | (go_at_call 57; refine (h57 _).mono ?_; rintro y w1 ⟨rfl, rfl⟩) | (go_at_call 67; refine (h67 _).mono ?_; rintro y w1 ⟨rfl, rfl⟩) | fail)
  have c0 : ((w.alloc (.cells #[.int .u32 a, .int .i64 s, .int .i64 r] 49)).alloc (.cells #[.int .u32 a', .int .i64 s', .int .i64 r'] 49)).cell? ⟨w.heap.size, 0, none⟩ = some (.int .u32 a) := by simp
  have c1 : ((w.alloc (.cells #[.int .u32 a, .int .i64 s, .int .i64 r] 49)).alloc (.cells #[.int .u32 a', .int .i64 s', .int .i64 r'] 49)).cell? ⟨w.heap.size, 1, none⟩ = some (.int .i64 s) := by simp
  have c2 : ((w.alloc (.cells #[.int .u32 a, .int .i64 s, .int .i64 r] 49)).alloc (.cells #[.int .u32 a', .int .i64 s', .int .i64 r'] 49)).cell? ⟨w.heap.size + 1, 0, none⟩ = some (.int .u32 a') := by simp
  have c3 : ((w.alloc (.cells #[.int .u32 a, .int .i64 s, .int .i64 r] 49)).alloc (.cells #[.int .u32 a', .int .i64 s', .int .i64 r'] 49)).cell? ⟨w.heap.size + 1, 1, none⟩ = some (.int .i64 s') := by simp
  have hW : ∃ os, (w.alloc (.cells #[.int .u32 a, .int .i64 s, .int .i64 r] 49)).alloc (.cells #[.int .u32 a', .int .i64 s', .int .i64 r'] 49) = Sort.grow w os := ⟨_, by rw [Sort.alloc_eq_grow, Sort.alloc_eq_grow, Sort.grow_grow]⟩
  generalize (w.alloc (.cells #[.int .u32 a, .int .i64 s, .int .i64 r] 49)).alloc (.cells #[.int .u32 a', .int .i64 s', .int .i64 r'] 49) = W at *
  generalize w.heap.size + 1 = g2 at *
  generalize w.heap.size = g1 at *
  have hk0 : W.drew.cell? ⟨g1, 0, none⟩ = some (.int .u32 a) ∧ W.drew.cell? ⟨g1, 1, none⟩ = some (.int .i64 s) ∧ W.drew.cell? ⟨g2, 0, none⟩ = some (.int .u32 a') ∧ W.drew.cell? ⟨g2, 1, none⟩ = some (.int .i64 s') := ⟨c0, c1, c2, c3⟩
  have h66 := fun (V : World) => or_66 V.heap.size 2 (V.alloc (.cells #[.int .i64 x, .int .i64 y] 3)).drew x y (by simp) (by simp)
  go_region_held3 (fun W => W.cell? ⟨g1, 0, none⟩ = some (.int .u32 a) ∧ W.cell? ⟨g1, 1, none⟩ = some (.int .i64 s) ∧ W.cell? ⟨g2, 0, none⟩ = some (.int .u32 a') ∧ W.cell? ⟨g2, 1, none⟩ = some (.int .i64 s')) ((first | with_reducible exact hk0 | go_keep)) ((first
    | (go_at_call 57; with_reducible refine (h57 _).mono ?_; rintro z w' ⟨rfl, rfl⟩)
    | (go_at_call 67; with_reducible refine (h67 _).mono ?_; rintro z w' ⟨rfl, rfl⟩)
    | (go_at_call 66; refine (h66 _).mono ?_; rintro z w' ⟨rfl, rfl⟩)))
  go_wp2
  go_ret
  obtain ⟨os, rfl⟩ := hW
  exact ⟨rfl, 1, _, by rw [Sort.alloc_eq_grow, Sort.grow_grow, Sort.drew_grow]; rfl⟩
end Go.Proofs.Ytphhofbdekbggaa
