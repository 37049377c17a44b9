/-
  Servers of none: their sort, their clone.
-/
import Derived.Test.YtphhofbdekbggaaRo
import Derived.Lib.BitFns
namespace Go.Proofs.Ytphhofbdekbggaa
open Go.RowKit
set_option linter.unusedVariables false
set_option linter.unusedSimpArgs false
set_option maxRecDepth 100000 in
theorem len_83 (x : Int) (h : 0 ≤ x ∧ x < 256) (w : World) : Calls Try.prog 83 #[.int .u64 x] w fun e w' => (∃ r, e = .returned (.int .i64 r)) ∧ w' = w := by
  obtain ⟨h0, h1⟩ := h
  go_enter Try.func83, Try.ntmps83
  go_wp2
  go_ret
  exact ⟨⟨_, rfl⟩, rfl⟩
theorem len_61 (x : Int) (h : 0 ≤ x ∧ x < 256) (w : World) : Calls Try.prog 61 #[.int .u64 x] w fun e w' => (∃ r, e = .returned (.int .i64 r)) ∧ w' = w := by
  have h83 := fun W => len_83 x h W
  go_enter Try.func61, Try.ntmps61
  go_wp2_with (first | (go_at_call 83; go_must (refine (h83 _).mono ?_); rintro y w1 ⟨⟨r, rfl⟩, rfl⟩) | fail)
  go_ret
  exact ⟨⟨_, rfl⟩, rfl⟩
theorem ins_74_no (a : Option Addr) (c : Nat) (f : Value) (w : World) : Calls Try.prog 74 #[.slice a 0 c, .int .i64 0, .int .i64 0, f] w fun e w' => e = .returned (.tuple #[]) ∧ w' = w := by
  go_enter Try.func74, Try.ntmps74
  go_wp2_with fail
  go_loopw [8] (fun x wr => x = .int .i64 1 ∧ wr = w) (fun x _ => 0)
  case atStart => exact ⟨rfl, rfl⟩
  case round =>
    obtain ⟨rfl, rfl⟩ := hrel
    go_wp2_with fail
    exact ⟨rfl, .tuple #[], results_none Try.results74 _ _ _, rfl, rfl⟩
theorem pdq_60_no (a : Option Addr) (c : Nat) (l : Int) (f : Value) (w : World) : Calls Try.prog 60 #[.slice a 0 c, .int .i64 0, .int .i64 0, .int .i64 l, f] w fun e w' => e = .returned (.tuple #[]) ∧ w' = w := by
  have h74 := fun W => ins_74_no a c f W
  go_enter Try.func60, Try.ntmps60
  go_wp2_with (first | (go_at_call 74; go_must (refine (h74 _).mono ?_); rintro y w1 ⟨rfl, rfl⟩) | fail)
  go_loopw [1, 2, 3] (fun x y z wr => x = .int .i64 0 ∧ y = .int .i64 0 ∧ z = .int .i64 l ∧ wr = w) (fun _ _ _ _ => 0)
  case atStart => exact ⟨rfl, rfl, rfl, rfl⟩
  case round =>
    obtain ⟨rfl, rfl, rfl, rfl⟩ := hrel
    go_wp2_with (first | (go_at_call 74; go_must (refine (h74 _).mono ?_); rintro y w1 ⟨rfl, rfl⟩) | fail)
    exact ⟨rfl, .tuple #[], results_none Try.results60 _ _ _, rfl, rfl⟩
theorem sort_45_no (a : Option Addr) (c : Nat) (f : Value) (w : World) : Calls Try.prog 45 #[.slice a 0 c, f] w fun e w' => e = .returned (.tuple #[]) ∧ w' = w := by
  have h60 := fun l W => pdq_60_no a c l f W
  have h61 := fun W => len_61 0 (by omega) W
  go_enter Try.func45, Try.ntmps45
  go_wp2_with (first | (go_at_call 61; go_must (refine (h61 _).mono ?_); rintro y w1 ⟨⟨r, rfl⟩, rfl⟩) | (go_at_call 60; go_must (refine (h60 _ _).mono ?_); rintro y w1 ⟨rfl, rfl⟩) | fail)
  exact ⟨rfl, .tuple #[], results_none Try.results45 _ _ _, rfl, rfl⟩
set_option maxRecDepth 100000 in
set_option maxHeartbeats 2000000 in
theorem clone_32_no {w : World} {a : Option Addr} {c : Nat} :
    Calls Try.prog 32 #[.slice a 0 c] w fun e w' => (∃ a' c', e = .returned (.slice a' 0 c')) ∧ w.grownBy w' none := by
  have hq : ∀ (W : World) (n c : Nat), Sem.run Try.prog (binOp .eql 22 (.slice a n c) (.slice none 0 0)) W = .ok (.bool a.isNone) W := fun W n c => by
    cases a with
    | none => first | rfl | kernel_rfl | simp [binOp, go_sem]
    | some x => first | rfl | kernel_rfl | simp [binOp, go_sem]
  have ga := gb_alloc (gb_refl w none) (.cells #[] 26)
  cases a with
  | none =>
    have hq1 := hq
    simp only [Option.isNone_none] at hq1
    clear hq
    go_enter Try.func32, Try.ntmps32
    go_wp2_with fail
    go_ret
    exact ⟨⟨_, _, rfl⟩, gb_refl _ _⟩
  | some x =>
    have hq1 := hq
    simp only [Option.isNone_some] at hq1
    clear hq
    go_enter Try.func32, Try.ntmps32
    go_wp2_with fail
    go_ret
    exact ⟨⟨_, _, rfl⟩, ga⟩
theorem byName_31_no {w : World} {a : Option Addr} {c : Nat} :
    Calls Try.prog 31 #[.slice a 0 c] w fun e w' => (∃ a' c', e = .returned (.slice a' 0 c')) ∧ w.grownBy w' none := by
  have h32 := fun W => clone_32_no (w := W) (a := a) (c := c)
  have h45 := fun (W : World) a c => sort_45_no a c (.func (.func 46) #[] #[]) W
  go_enter Try.func31, Try.ntmps31
  go_wp2_with (first
    | (go_at_call 32; go_must (refine (h32 _).mono ?_); rintro y w2 ⟨⟨g2, c2, rfl⟩, hg2⟩)
    | (go_at_call 45; go_must (refine (h45 _ g2 c2).mono ?_); rintro y w3 ⟨rfl, rfl⟩) | fail)
  go_ret
  exact ⟨⟨_, _, rfl⟩, hg2⟩
end Go.Proofs.Ytphhofbdekbggaa
