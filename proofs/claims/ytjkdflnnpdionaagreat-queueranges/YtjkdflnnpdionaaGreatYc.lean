import Derived.Test.YtjkdflnnpdionaaGreatVi
import Derived.Test.YtjkdflnnpdionaaGreatWc
/-
  The law's length; Head, Behind; the document's State.
-/
namespace Go.Proofs.YtjkdflnnpdionaaGreat
open Go.RowKit
set_option linter.unusedVariables false

section
variable {w : World} {sb qb gl gc : Nat} {F : Nat → Prop} {B : Bl} {b c d e f g : Int} {A : Ab} {m : List Int} {T : List Nat} {bs : Nat → It} {cls : Nat → Nat} {X : Nat → Nat → List Nat}
theorem q_headL (h : QL w sb qb gl gc F B b c d e f g A m T bs cls X) {ci k : Nat} (hc : ci < A.n) (hk : k < 3) (v : Nat) (hv : (X ci k).headD 0 = v) :
    Calls Tryz.prog 63 #[.pointer (some ⟨qb, 0, none⟩), .int .i64 ci, .int .i64 ((k : Int) + 1)] w fun y w' => y = .returned (.tuple #[.int .u64 v, .bool (decide (¬ v = 0))]) ∧ w.grownBy w' none := by
  obtain ⟨p, n, s, L, ⟨zs, hz, hq⟩, hI⟩ := h.ex
  exact q_head hq hc hk v (by rw [hI.hd, hv])
set_option maxRecDepth 100000 in
theorem q_behind (h : QL w sb qb gl gc F B b c d e f g A m T bs cls X) {H k : Nat} {U V : List Nat} (hX : X (cls H) k = U ++ H :: V) (v : Nat) (hv : V.headD 0 = v) :
    Calls Tryz.prog 93 #[.pointer (some ⟨qb, 0, none⟩), .int .u64 H] w fun y w' => y = .returned (.tuple #[.int .u64 v, .bool (decide (¬ v = 0))]) ∧ w.grownBy w' none := by
  have hm : H ∈ X (cls H) k := by rw [hX]; simp
  have hst := q_stateL h hm
  obtain ⟨p, n, s, L, ⟨zs, hz, hq⟩, hI⟩ := h.ex
  obtain ⟨hT, hs, _⟩ := hI.sub _ _ H hm
  have hk := hI.k3 _ _ H hm
  have hnx := fun W (hf : w.grownBy W none) => q_next (hq.kept0 hf) hT 2 (.inr rfl) v (by rw [if_neg (by omega), (hI.lk _ _ U H V hX).2, hv])
  simp only [show ((2 : Nat) : Int) = 2 from rfl] at hnx
  have hik := fun W => isKind_yes k hk W
  clear h hq hI hX hv hm
  have h117 : Calls Tryz.prog 157 #[.pointer (some ⟨qb, 0, none⟩), .int .u64 H, .int .i64 2] w fun y w' => y = .returned (.tuple #[.int .u64 v, .bool (decide (¬ v = 0))]) ∧ w.grownBy w' none := by
    go_enter Tryz.func157, Tryz.ntmps157
    go_wp2_with (first | (go_at_call 77; go_must (refine hst.mono ?_); rintro y w1 ⟨rfl, hf1⟩) | (go_at_call 76; go_must (refine (hik _).mono ?_); rintro y w' ⟨rfl, rfl⟩) | (go_at_call 130; go_must (refine (hnx _ hf1).mono ?_); rintro y w2 ⟨rfl, hf2⟩) | (go_at_call 127; go_must (refine (told_any v _).mono ?_); rintro y w' ⟨rfl, rfl⟩) | fail)
    go_ret2
    exact ⟨show Ending.returned (.tuple #[.int .u64 v, .bool (!decide (v = 0))]) = _ by simp, gb_trans hf1 hf2⟩
  clear hst hnx hik
  go_enter Tryz.func93, Tryz.ntmps93
  go_wp2_with (first | (go_at_call 157; go_must (refine h117.mono ?_); rintro y w1 ⟨rfl, hf1⟩) | fail)
  go_ret2
  exact ⟨show Ending.returned (.tuple #[.int .u64 v, .bool (!decide (v = 0))]) = _ by simp, hf1⟩
end

section
variable {w : World} {lb rb lsb : Nat} {lv : Value} {vs : Nat → Value} {Y : Nat → List Nat} {szb szc : Nat}
set_option maxRecDepth 100000 in
/-- The document's State of what stands in a list. -/
theorem rstate_yes (h : RQ w lb rb lsb lv vs Y szb szc) {H j : Nat} {U V : List Nat} (hS : Stands Y H j U V) (hj : j < 9) :
    Calls Tryz.prog 126 #[.pointer (some ⟨lb, 0, none⟩), .int .u64 H] w fun y w' => y = .returned (.int .i64 ((j % 3 + 1 : Nat) : Int)) ∧ w.grownBy w' none := by
  have hw := where_yes h hS
  generalize U.length = ul at *
  have h1 : (j : Int) ≥ 0 := by omega
  have h2 : decide ((j : Int) ≥ 0) = true := decide_eq_true h1
  have h3 : (j : Int).tmod 3 = ((j % 3 : Nat) : Int) := by rw [Int.tmod_eq_emod_of_nonneg (by omega)]; omega
  have h4 : IntKind.i64.wrap (((j % 3 : Nat) : Int) + 1) = ((j % 3 + 1 : Nat) : Int) := by rw [IntKind.wrap_i64]; omega
  generalize j % 3 = r at *
  clear h hS
  go_enter Tryz.func126, Tryz.ntmps126
  go_wp2_with (first | (go_at_call 85; go_must (refine hw.mono ?_); rintro y w' ⟨rfl, rfl⟩) | fail)
  go_ret
  exact ⟨by first | rfl | (congr), gb_refl _ _⟩
set_option maxRecDepth 100000 in
theorem rstate_no (h : RQ w lb rb lsb lv vs Y szb szc) {H : Nat} (hS : Nowhere Y H) (hI : Calls Tryz.prog 27 #[.pointer (some ⟨lb, 0, none⟩), .int .u64 H] w fun y w' => y = .returned (.bool true) ∧ w.grownBy w' none) :
    Calls Tryz.prog 126 #[.pointer (some ⟨lb, 0, none⟩), .int .u64 H] w fun y w' => y = .returned (.int .i64 4) ∧ w.grownBy w' none := by
  have hw := where_no h hS
  clear h hS
  go_enter Tryz.func126, Tryz.ntmps126
  go_wp2_with (first | (go_at_call 85; go_must (refine hw.mono ?_); rintro y w' ⟨rfl, rfl⟩) | (go_at_call 27; go_must (refine hI.mono ?_); rintro y w1 ⟨rfl, hf1⟩) | fail)
  go_ret
  exact ⟨rfl, hf1⟩
end

section
end
end Go.Proofs.YtjkdflnnpdionaaGreat
