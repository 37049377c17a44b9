/-
  Small functions: names, numbers between bounds, refusals.
-/
import Derived.Test.YtndjimdegkdljaaC
import Derived.Lib.Hide
namespace Go.Proofs.Ytndjimdegkdljaa
open Go.RowKit
set_option linter.unusedVariables false
set_option linter.unusedSimpArgs false
attribute [local go_sem] Oper.semAt_some

def okN (s : Bs) : Bool := decide (1 ≤ s.length) && decide (s.length ≤ 32)
theorem isName_79 (s : Bs) (hs : s.length ≤ 9223372036854775807) (w : World) : Calls Try.prog 79 #[sv s] w fun e w' => e = .returned (.bool (okN s)) ∧ w' = w := by
  have hz : (ByteArray.mk s.toArray).size = s.length := rfl
  show Calls Try.prog 79 #[.string ⟨s.toArray⟩] w _
  unfold okN
  by_cases h1 : 1 ≤ s.length
  · have d1 : decide ((1 : Int) ≤ (s.length : Int)) = true := decide_eq_true (by omega)
    have d1' : (1 : Int) ≤ (s.length : Int) := by omega
    go_enter Try.func79, Try.ntmps79
    go_wp2
    go_ret
    refine ⟨?_, rfl⟩
    simp [h1]
    omega
  · have d1 : decide ((1 : Int) ≤ (s.length : Int)) = false := decide_eq_false (by omega)
    have d1' : ¬ (1 : Int) ≤ (s.length : Int) := by omega
    go_enter Try.func79, Try.ntmps79
    go_wp2
    go_ret
    refine ⟨?_, rfl⟩
    simp [h1]
theorem legal_73 (s : Bs) (hs : s.length ≤ 9223372036854775807) (w : World) : Calls Try.prog 73 #[sv s] w fun e w' => e = .returned (.bool (okN s)) ∧ w' = w := by
  have hz : (ByteArray.mk s.toArray).size = s.length := rfl
  show Calls Try.prog 73 #[.string ⟨s.toArray⟩] w _
  unfold okN
  by_cases h1 : 1 ≤ s.length
  · have d1 : decide ((1 : Int) ≤ (s.length : Int)) = true := decide_eq_true (by omega)
    have d1' : (1 : Int) ≤ (s.length : Int) := by omega
    go_enter Try.func73, Try.ntmps73
    go_wp2
    go_ret
    refine ⟨?_, rfl⟩
    simp [h1]
    omega
  · have d1 : decide ((1 : Int) ≤ (s.length : Int)) = false := decide_eq_false (by omega)
    have d1' : ¬ (1 : Int) ≤ (s.length : Int) := by omega
    go_enter Try.func73, Try.ntmps73
    go_wp2
    go_ret
    refine ⟨?_, rfl⟩
    simp [h1]

/-- n, but no less than 0 and no more than most. -/
def btw (n most : Int) : Int := if n < 0 then 0 else if most < n then most else n
theorem within_46 (n m : Int) (hm : 0 ≤ m) (w : World) : Calls Try.prog 46 #[.int .i64 n, .int .i64 m] w fun e w' => e = .returned (.int .i64 (btw n m)) ∧ w' = w := by
  have hb : btw n m = min (max n 0) m := by unfold btw; (repeat' split) <;> omega
  rw [hb]
  go_enter Try.func46, Try.ntmps46
  go_wp2
  all_goals
    go_ret
    refine ⟨?_, rfl⟩
    rename_i h1
    show Ending.returned (Value.int .i64 _) = Ending.returned (Value.int .i64 _)
    congr 2
    split at h1 <;> omega
theorem between_50 (n m : Int) (w : World) : Calls Try.prog 50 #[.int .i64 n, .int .i64 m] w fun e w' => e = .returned (.int .i64 (btw n m)) ∧ w' = w := by
  unfold btw
  go_enter Try.func50, Try.ntmps50
  go_wp2
  all_goals
    go_ret
    exact ⟨by simp [*], rfl⟩

/-- An error's value: nil, if why is 0; else a Fault. -/
def ErrV (w : World) (v : Value) (call name : Bs) (why : Int) : Prop :=
  (why = 0 ∧ v = .nilIface) ∨ (why ≠ 0 ∧ ∃ g, v = .iface 55 (pv g) ∧ Box w 57 g #[sv call, sv name, .iface 54 (.int .i64 why)])
theorem ErrV.kept {w w' : World} {v : Value} {call name : Bs} {why : Int} (h : ErrV w v call name why) (hg : w.grownBy w' none) : ErrV w' v call name why := by
  rcases h with h | ⟨h1, g, h2, h3⟩
  · exact .inl h
  · exact .inr ⟨h1, g, h2, h3.kept hg (by simp)⟩
theorem refusal_30 (call name : Bs) (why : Int) (w : World) : Calls Try.prog 30 #[sv call, sv name, .int .i64 why] w fun e w' => ∃ v, e = .returned v ∧ ErrV w' v call name why ∧ w.grownBy w' none := by
  by_cases h0 : why = 0
  · subst h0
    go_enter Try.func30, Try.ntmps30
    go_wp2
    go_ret
    exact ⟨_, rfl, .inl ⟨rfl, rfl⟩, gb_refl _ _⟩
  · have d0 : decide (why = 0) = false := decide_eq_false h0
    go_enter Try.func30, Try.ntmps30
    go_wp2
    go_ret
    exact ⟨_, rfl, .inr ⟨h0, _, rfl, Box.new _ _ _⟩, gb_alloc (gb_refl _ _) _⟩
theorem unwrap_20 {w : World} {g : Nat} {call name : Bs} {x : Value} (hb : Box w 57 g #[sv call, sv name, x]) : Calls Try.prog 20 #[pv g] w fun e w' => e = .returned x ∧ w' = w := by
  have c2 : w.cell? ⟨g, 2, none⟩ = some x := hb.cell 2
  show Calls Try.prog 20 #[.pointer (some ⟨g, 0, none⟩)] w _
  go_enter Try.func20, Try.ntmps20
  go_wp2
  go_ret
  exact ⟨rfl, rfl⟩
def etM (n : Int) : Bs := if n = 9 then [111, 117, 116, 32, 111, 102, 32, 116, 111, 107, 101, 110, 115] else if n = 10 then [98, 117, 115, 121] else if n = 180 then [105, 110, 112, 117, 116, 32, 111, 114, 32, 111, 117, 116, 112, 117, 116] else if n = 181 then [110, 111, 32, 115, 112, 97, 99, 101] else if n = 182 then [109, 105, 115, 115, 105, 110, 103] else if n = 183 then [101, 120, 105, 115, 116, 115] else if n = 184 then [110, 111, 32, 112, 111, 119, 101, 114] else if n = 185 then [99, 111, 114, 114, 117, 112, 116] else if n = 186 then [98, 97, 100, 32, 110, 97, 109, 101] else if n = 190 then [110, 111, 32, 115, 117, 99, 104, 32, 115, 101, 114, 118, 101, 114] else if n = 200 then [116, 105, 109, 101, 100, 32, 111, 117, 116] else if n = 201 then [99, 108, 111, 115, 101, 100] else if n = 202 then [103, 97, 114, 98, 108, 101, 100] else [117, 110, 107, 110, 111, 119, 110]
def etx (n : Int) : Bs := if n = 0 then [111, 107] else if n = 1 then [98, 97, 100, 32, 97, 114, 103, 117, 109, 101, 110, 116] else if n = 2 then [116, 111, 111, 32, 109, 97, 110, 121] else if n = 3 then [116, 111, 111, 32, 102, 101, 119, 32, 112, 97, 103, 101, 115] else if n = 4 then [116, 104, 101, 32, 99, 108, 111, 99, 107, 39, 115, 32, 101, 110, 100] else if n = 5 then [110, 111, 32, 115, 117, 99, 104, 32, 99, 111, 110, 110, 101, 99, 116, 105, 111, 110] else if n = 6 then [116, 111, 111, 32, 108, 111, 110, 103] else if n = 7 then [98, 97, 100, 32, 102, 111, 114, 109] else if n = 8 then [116, 104, 101, 114, 101, 32, 97, 108, 114, 101, 97, 100, 121] else if n = 20 then [110, 111, 32, 115, 117, 99, 104, 32, 112, 108, 97, 99, 101, 32, 111, 114, 32, 104, 97, 110, 100, 108, 101] else if n = 21 then [110, 111, 32, 114, 111, 111, 109] else if n = 30 then [98, 97, 100, 32, 107, 101, 121] else etM n
theorem more_70 (n : Int) (w : World) : Calls Try.prog 70 #[.int .i64 n] w fun e w' => e = .returned (sv (etM n)) ∧ w' = w := by
  by_cases h9 : n = 9
  · subst h9
    go_enter Try.func70, Try.ntmps70
    go_wp2
    go_ret
    exact ⟨rfl, rfl⟩
  by_cases h10 : n = 10
  · subst h10
    go_enter Try.func70, Try.ntmps70
    go_wp2
    go_ret
    exact ⟨rfl, rfl⟩
  by_cases h180 : n = 180
  · subst h180
    go_enter Try.func70, Try.ntmps70
    go_wp2
    go_ret
    exact ⟨rfl, rfl⟩
  by_cases h181 : n = 181
  · subst h181
    go_enter Try.func70, Try.ntmps70
    go_wp2
    go_ret
    exact ⟨rfl, rfl⟩
  by_cases h182 : n = 182
  · subst h182
    go_enter Try.func70, Try.ntmps70
    go_wp2
    go_ret
    exact ⟨rfl, rfl⟩
  by_cases h183 : n = 183
  · subst h183
    go_enter Try.func70, Try.ntmps70
    go_wp2
    go_ret
    exact ⟨rfl, rfl⟩
  by_cases h184 : n = 184
  · subst h184
    go_enter Try.func70, Try.ntmps70
    go_wp2
    go_ret
    exact ⟨rfl, rfl⟩
  by_cases h185 : n = 185
  · subst h185
    go_enter Try.func70, Try.ntmps70
    go_wp2
    go_ret
    exact ⟨rfl, rfl⟩
  by_cases h186 : n = 186
  · subst h186
    go_enter Try.func70, Try.ntmps70
    go_wp2
    go_ret
    exact ⟨rfl, rfl⟩
  by_cases h190 : n = 190
  · subst h190
    go_enter Try.func70, Try.ntmps70
    go_wp2
    go_ret
    exact ⟨rfl, rfl⟩
  by_cases h200 : n = 200
  · subst h200
    go_enter Try.func70, Try.ntmps70
    go_wp2
    go_ret
    exact ⟨rfl, rfl⟩
  by_cases h201 : n = 201
  · subst h201
    go_enter Try.func70, Try.ntmps70
    go_wp2
    go_ret
    exact ⟨rfl, rfl⟩
  by_cases h202 : n = 202
  · subst h202
    go_enter Try.func70, Try.ntmps70
    go_wp2
    go_ret
    exact ⟨rfl, rfl⟩
  obtain ⟨T, hT⟩ : ∃ T, etM n = T := ⟨_, rfl⟩
  rw [hT]
  have HT := Lib.hid hT
  clear hT
  have d9 : (n == 9) = false := by simp [h9]
  have d10 : (n == 10) = false := by simp [h10]
  have d180 : (n == 180) = false := by simp [h180]
  have d181 : (n == 181) = false := by simp [h181]
  have d182 : (n == 182) = false := by simp [h182]
  have d183 : (n == 183) = false := by simp [h183]
  have d184 : (n == 184) = false := by simp [h184]
  have d185 : (n == 185) = false := by simp [h185]
  have d186 : (n == 186) = false := by simp [h186]
  have d190 : (n == 190) = false := by simp [h190]
  have d200 : (n == 200) = false := by simp [h200]
  have d201 : (n == 201) = false := by simp [h201]
  have d202 : (n == 202) = false := by simp [h202]
  go_enter Try.func70, Try.ntmps70
  go_wp2
  go_ret
  refine ⟨?_, rfl⟩
  rw [← HT.out]
  simp [etM, h9, h10, h180, h181, h182, h183, h184, h185, h186, h190, h200, h201, h202]
theorem error_31 (n : Int) (w : World) : Calls Try.prog 31 #[.int .i64 n] w fun e w' => e = .returned (sv (etx n)) ∧ w' = w := by
  have h70 := more_70 n w
  by_cases h0 : n = 0
  · subst h0
    go_enter Try.func31, Try.ntmps31
    go_wp2
    go_ret
    exact ⟨rfl, rfl⟩
  by_cases h1 : n = 1
  · subst h1
    go_enter Try.func31, Try.ntmps31
    go_wp2
    go_ret
    exact ⟨rfl, rfl⟩
  by_cases h2 : n = 2
  · subst h2
    go_enter Try.func31, Try.ntmps31
    go_wp2
    go_ret
    exact ⟨rfl, rfl⟩
  by_cases h3 : n = 3
  · subst h3
    go_enter Try.func31, Try.ntmps31
    go_wp2
    go_ret
    exact ⟨rfl, rfl⟩
  by_cases h4 : n = 4
  · subst h4
    go_enter Try.func31, Try.ntmps31
    go_wp2
    go_ret
    exact ⟨rfl, rfl⟩
  by_cases h5 : n = 5
  · subst h5
    go_enter Try.func31, Try.ntmps31
    go_wp2
    go_ret
    exact ⟨rfl, rfl⟩
  by_cases h6 : n = 6
  · subst h6
    go_enter Try.func31, Try.ntmps31
    go_wp2
    go_ret
    exact ⟨rfl, rfl⟩
  by_cases h7 : n = 7
  · subst h7
    go_enter Try.func31, Try.ntmps31
    go_wp2
    go_ret
    exact ⟨rfl, rfl⟩
  by_cases h8 : n = 8
  · subst h8
    go_enter Try.func31, Try.ntmps31
    go_wp2
    go_ret
    exact ⟨rfl, rfl⟩
  by_cases h20 : n = 20
  · subst h20
    go_enter Try.func31, Try.ntmps31
    go_wp2
    go_ret
    exact ⟨rfl, rfl⟩
  by_cases h21 : n = 21
  · subst h21
    go_enter Try.func31, Try.ntmps31
    go_wp2
    go_ret
    exact ⟨rfl, rfl⟩
  by_cases h30 : n = 30
  · subst h30
    go_enter Try.func31, Try.ntmps31
    go_wp2
    go_ret
    exact ⟨rfl, rfl⟩
  obtain ⟨T, hT⟩ : ∃ T, etx n = T := ⟨_, rfl⟩
  rw [hT]
  have HT := Lib.hid hT
  clear hT
  have d0 : (n == 0) = false := by simp [h0]
  have d1 : (n == 1) = false := by simp [h1]
  have d2 : (n == 2) = false := by simp [h2]
  have d3 : (n == 3) = false := by simp [h3]
  have d4 : (n == 4) = false := by simp [h4]
  have d5 : (n == 5) = false := by simp [h5]
  have d6 : (n == 6) = false := by simp [h6]
  have d7 : (n == 7) = false := by simp [h7]
  have d8 : (n == 8) = false := by simp [h8]
  have d20 : (n == 20) = false := by simp [h20]
  have d21 : (n == 21) = false := by simp [h21]
  have d30 : (n == 30) = false := by simp [h30]
  go_enter Try.func31, Try.ntmps31
  go_wp2_with (go_at_call 70; go_must (refine h70.mono ?_); rintro e w1 ⟨rfl, hw1⟩; have hw2 := hw1.symm; subst hw2)
  go_ret
  refine ⟨?_, rfl⟩
  rw [← HT.out]
  simp [etx, h0, h1, h2, h3, h4, h5, h6, h7, h8, h20, h21, h30]
theorem ite_len {c : Prop} [Decidable c] {a b : Bs} (ha : a.length ≤ 64) (hb : b.length ≤ 64) : (if c then a else b).length ≤ 64 := by split <;> assumption
theorem etx_len (n : Int) : (etx n).length ≤ 64 := by
  unfold etx etM
  repeat (refine ite_len (by decide) ?_)
  decide
end Go.Proofs.Ytndjimdegkdljaa
