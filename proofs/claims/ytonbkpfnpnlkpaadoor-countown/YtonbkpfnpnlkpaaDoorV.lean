/-
  What the program adds is what the document adds.
-/
import Derived.Test.YtonbkpfnpnlkpaaDoorU
namespace Go.Proofs.YtonbkpfnpnlkpaaDoor
open Go.RowKit
set_option linter.unusedVariables false
set_option linter.unusedSimpArgs false

theorem key_eq (y : Int) : keyL y = rkey y := by
  unfold keyL rkey miss
  by_cases h0 : y = 0
  · subst h0; rfl
  by_cases h1 : y = 1
  · subst h1; rfl
  by_cases h2 : y = 2
  · subst h2; rfl
  by_cases h3 : y = 3
  · subst h3; rfl
  simp [h0, h1, h2, h3, wh]
theorem touch_eq (y : Int) : touchL y = rtouch y := by
  unfold touchL rtouch miss
  by_cases h0 : y = 0
  · subst h0; rfl
  by_cases h1 : y = 1
  · subst h1; rfl
  by_cases h2 : y = 2
  · subst h2; rfl
  by_cases h3 : y = 3
  · subst h3; rfl
  rw [if_neg h0, if_neg (by omega)]
  simp [h0, h1, h2, h3, wh]
theorem dl_flat (f g : Int → List Nat) : ∀ l : List Int, dl (l.flatMap (fun y => f y ++ g y)) = dl (l.flatMap f ++ l.flatMap g)
  | [] => rfl
  | y :: l => by
    have ih := dl_flat f g l
    funext i
    have := congrFun ih i
    simp only [dl, List.flatMap_cons, List.count_append] at this ⊢
    omega
theorem dl_swap (a b : List Nat) : dl (a ++ b) = dl (b ++ a) := by funext i; simp only [dl, List.count_append]; omega
theorem ans_eq (v k : Int) : dl (ansL v k) = dl (rtext v k []) ∨ v = 1 ∨ v = 2 ∨ v = 3 ∨ v = 4 := by
  by_cases c1 : v = 1; exact .inr (.inl c1)
  by_cases c2 : v = 2; exact .inr (.inr (.inl c2))
  by_cases c3 : v = 3; exact .inr (.inr (.inr (.inl c3)))
  by_cases c4 : v = 4; exact .inr (.inr (.inr (.inr c4)))
  left
  unfold ansL rtext
  rw [if_neg (by omega : ¬ (v = 1 ∨ v = 2)), if_neg (by omega : ¬ (v = 3 ∨ v = 4))]
  by_cases c5 : v = 5 ∨ v = 6 ∨ v = 7 ∨ v = 8 ∨ v = 9
  · rw [if_pos c5, if_pos c5]
    by_cases hk : k = 1 <;> simp [hk, wh]
  rw [if_neg c5, if_neg c5]
  by_cases c10 : v = 10
  · rw [if_pos c10, if_pos c10]
    by_cases h1 : k = 1
    · subst h1; rfl
    by_cases h3 : k = 3
    · subst h3; rfl
    by_cases h4 : k = 4
    · subst h4; rfl
    simp [h1, h3, h4, wh]
  rw [if_neg c10, if_neg c10]
  by_cases c11 : v = 11
  · rw [if_pos c11, if_pos c11]; unfold reither
    by_cases h1 : k = 5
    · subst h1; rfl
    by_cases h4 : k = 4
    · subst h4; rfl
    simp [h1, h4, wh]
  rw [if_neg c11, if_neg c11]
  by_cases c12 : v = 12
  · rw [if_pos c12, if_pos c12]; unfold reither
    by_cases h1 : k = 7
    · subst h1; rfl
    by_cases h4 : k = 4
    · subst h4; rfl
    simp [h1, h4, wh]
  rw [if_neg c12, if_neg c12]
  by_cases c13 : v = 13
  · rw [if_pos c13, if_pos c13]; unfold reither
    by_cases h1 : k = 7
    · subst h1; rfl
    by_cases h4 : k = 4
    · subst h4; rfl
    simp [h1, h4, wh]
  rw [if_neg c13, if_neg c13]
  by_cases c14 : v = 14
  · rw [if_pos c14, if_pos c14]; unfold reither
    by_cases h1 : k = 6
    · subst h1; exact dl_swap [3] [19]
    by_cases h4 : k = 4
    · subst h4; exact dl_swap [3] [20]
    simp [h1, h4, wh]
  rw [if_neg c14, if_neg c14]
theorem rtext_why (v k : Int) (why : List Int) (h : ¬ v = 1 ∧ ¬ v = 2 ∧ ¬ v = 3 ∧ ¬ v = 4) : rtext v k why = rtext v k [] := by
  unfold rtext
  rw [if_neg (by omega : ¬ (v = 1 ∨ v = 2)), if_neg (by omega : ¬ (v = 3 ∨ v = 4)), if_neg (by omega : ¬ (v = 1 ∨ v = 2)), if_neg (by omega : ¬ (v = 3 ∨ v = 4))]
theorem by_eq (why : List Int) (x : Bool) (h m : Nat) : wh (why.headD (-1) == 0 && !x) [h] ++ wh (miss (why.headD (-1))) [m] = rby why x h m := by
  cases why with
  | nil => simp [rby, wh, miss]
  | cons y l =>
    simp only [List.headD_cons, rby, miss]
    by_cases h0 : y = 0
    · subst h0; cases x <;> simp [wh]
    by_cases h1 : y = 1
    · subst h1; simp [wh]
    by_cases h2 : y = 2
    · subst h2; simp [wh]
    by_cases h3 : y = 3
    · subst h3; simp [wh]
    rw [if_neg (by omega), if_neg (by omega)]
    simp [h0, h1, h2, h3, wh]
theorem meta_eq (v ak : Int) (cd : Bs) (fl : List Fl) (why : List Int) (hv : 20 ≤ v ∧ v ≤ 24) : [5] ++ metaL v (why.headD (-1)) ak cd fl = rmeta v ak cd fl why := by
  rcases (by omega : v = 20 ∨ v = 21 ∨ v = 22 ∨ v = 23 ∨ v = 24) with rfl | rfl | rfl | rfl | rfl
  · show [5] ++ keyL (why.headD (-1)) = [5] ++ rhead why
    cases why with
    | nil => rfl
    | cons y l => rw [List.headD_cons, key_eq]; rfl
  · show [5] ++ ([2] ++ wh (bq cd [72, 68]) [24] ++ wh (fnd fl 67).isSome (wh (bq cd [72, 68]) [16] ++ wh (bq cd [69, 88]) [17] ++ wh (bq cd [78, 70]) [18])) = [5] ++ [2] ++ _
    generalize (fnd fl 67).isSome = s
    by_cases h1 : cd = [72, 68]
    · subst h1; cases s <;> rfl
    by_cases h2 : cd = [69, 88]
    · subst h2; cases s <;> rfl
    by_cases h3 : cd = [78, 70]
    · subst h3; cases s <;> rfl
    rw [if_neg h1, if_neg h2, if_neg h3]
    cases s <;> simp [bq, h1, h2, h3, wh]
  · show [5] ++ (wh (why.headD (-1) == 0 && !(bq cd [69, 88])) [10] ++ wh (miss (why.headD (-1))) [11]) = [5] ++ rby why (cd == [69, 88]) 10 11
    rw [by_eq]
  · show [5] ++ (wh (why.headD (-1) == 0 && !(bq cd [69, 88]) && ak != 11) [if away fl then 14 else 12] ++ wh (miss (why.headD (-1))) [if away fl then 15 else 13]) = [5] ++ (if away fl then rby why (cd == [69, 88] || ak == 11) 14 15 else rby why (cd == [69, 88] || ak == 11) 12 13)
    have e : (why.headD (-1) == 0 && !(bq cd [69, 88]) && ak != 11) = (why.headD (-1) == 0 && !(cd == [69, 88] || ak == 11)) := by
      simp only [bq, Bool.not_or, Bool.and_assoc]; rfl
    rw [e, by_eq]
    cases away fl <;> rfl
  · rfl
theorem cmdL_eq (v ak : Int) (cd : Bs) (fl : List Fl) (why : List Int) : dl (cmdL v ak cd fl why) = dl (rcmdL v ak cd fl why) := by
  unfold cmdL rcmdL
  by_cases c1 : v = 1 ∨ v = 2
  · rw [if_pos c1, if_neg (by omega)]
    unfold rtext
    rw [if_pos c1, keysL, show keyL = rkey from funext key_eq]
  rw [if_neg c1]
  by_cases c3 : v = 3 ∨ v = 4
  · rw [if_pos c3, if_neg (by omega)]
    unfold rtext
    rw [if_neg c1, if_pos c3, dl_flat, keysL, touchesL, show keyL = rkey from funext key_eq, show touchL = rtouch from funext touch_eq]
  rw [if_neg c3]
  by_cases c20 : 20 ≤ v ∧ v ≤ 24
  · rw [if_pos c20, if_pos c20, meta_eq v ak cd fl why c20]
  rw [if_neg c20, if_neg c20, rtext_why v ak why (by omega)]
  rcases ans_eq v ak with h | h
  · exact h
  · omega
theorem cmdD_eq (c : Cm) (a : An) (fl : List Fl) (why : List Int) (m : Mt) : cmdD c a fl why m = rcmdD c a fl why m := by
  unfold cmdD rcmdD
  rw [← dl_app, ← dl_app, cmdL_eq]
end Go.Proofs.YtonbkpfnpnlkpaaDoor
