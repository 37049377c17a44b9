import Derived.Test.YtjkdflnnpdionaaGreatMl
/-
  Lru: the little functions.
-/
namespace Go.Proofs.YtjkdflnnpdionaaGreat
open Go.RowKit
set_option linter.unusedVariables false

section
variable {w : World} {sb qb gl gc : Nat} {F : Nat → Prop} {B : Bl} {b c d e f g : Int} {A : Ab} {m : List Int} {T : List Nat} {bs : Nat → It} {cls : Nat → Nat} {X : Nat → Nat → List Nat}
theorem q_tailL (h : QL w sb qb gl gc F B b c d e f g A m T bs cls X) {ci k : Nat} (hc : ci < A.n) (hk : k < 3) (v : Nat) (hv : (X ci k).getLastD 0 = v) :
    Calls Tryz.prog 64 #[.pointer (some ⟨qb, 0, none⟩), .int .i64 ci, .int .i64 ((k : Int) + 1)] w fun y w' => y = .returned (.tuple #[.int .u64 v, .bool (decide (¬ v = 0))]) ∧ w.grownBy w' none := by
  obtain ⟨p, n, s, L, ⟨zs, hz, hq⟩, hI⟩ := h.ex
  exact q_tail hq hc hk v (by rw [hI.tl, hv])
theorem q_lenL (h : QL w sb qb gl gc F B b c d e f g A m T bs cls X) {ci k : Nat} (hc : ci < A.n) (hk : k < 3) :
    Calls Tryz.prog 65 #[.pointer (some ⟨qb, 0, none⟩), .int .i64 ci, .int .i64 ((k : Int) + 1)] w fun y w' => y = .returned (.int .i64 (X ci k).length) ∧ w.grownBy w' none := by
  obtain ⟨p, n, s, L, ⟨zs, hz, hq⟩, hI⟩ := h.ex
  exact q_len hq hc hk _ (by rw [hI.ln])
set_option maxRecDepth 100000 in
theorem q_ahead (h : QL w sb qb gl gc F B b c d e f g A m T bs cls X) {H k : Nat} {U V : List Nat} (hX : X (cls H) k = U ++ H :: V) (v : Nat) (hv : U.getLastD 0 = v) :
    Calls Tryz.prog 92 #[.pointer (some ⟨qb, 0, none⟩), .int .u64 H] w fun y w' => y = .returned (.tuple #[.int .u64 v, .bool (decide (¬ v = 0))]) ∧ w.grownBy w' none := by
  have hm : H ∈ X (cls H) k := by rw [hX]; simp
  have hst := q_stateL h hm
  obtain ⟨p, n, s, L, ⟨zs, hz, hq⟩, hI⟩ := h.ex
  obtain ⟨hT, hs, _⟩ := hI.sub _ _ H hm
  have hk := hI.k3 _ _ H hm
  have hnx := fun W (hf : w.grownBy W none) => q_next (hq.kept0 hf) hT 1 (.inl rfl) v (by rw [if_pos rfl, (hI.lk _ _ U H V hX).1, hv])
  simp only [show ((1 : Nat) : Int) = 1 from rfl] at hnx
  have hik := fun W => isKind_yes k hk W
  clear h hq hI hX hv hm
  have h117 : Calls Tryz.prog 157 #[.pointer (some ⟨qb, 0, none⟩), .int .u64 H, .int .i64 1] w fun y w' => y = .returned (.tuple #[.int .u64 v, .bool (decide (¬ v = 0))]) ∧ w.grownBy w' none := by
    go_enter Tryz.func157, Tryz.ntmps157
    go_wp2_with (first | (go_at_call 77; go_must (refine hst.mono ?_); rintro y w1 ⟨rfl, hf1⟩) | (go_at_call 76; go_must (refine (hik _).mono ?_); rintro y w' ⟨rfl, rfl⟩) | (go_at_call 130; go_must (refine (hnx _ hf1).mono ?_); rintro y w2 ⟨rfl, hf2⟩) | (go_at_call 127; go_must (refine (told_any v _).mono ?_); rintro y w' ⟨rfl, rfl⟩) | fail)
    go_ret2
    exact ⟨show Ending.returned (.tuple #[.int .u64 v, .bool (!decide (v = 0))]) = _ by simp, gb_trans hf1 hf2⟩
  clear hst hnx hik
  go_enter Tryz.func92, Tryz.ntmps92
  go_wp2_with (first | (go_at_call 157; go_must (refine h117.mono ?_); rintro y w1 ⟨rfl, hf1⟩) | fail)
  go_ret2
  exact ⟨show Ending.returned (.tuple #[.int .u64 v, .bool (!decide (v = 0))]) = _ by simp, hf1⟩
end

section
variable {w : World} {xb sb qb gl gc : Nat} {F : Nat → Prop} {B : Bl} {b c d e f g : Int} {A : Ab} {m : List Int} {T : List Nat} {bs : Nat → It} {cls : Nat → Nat} {X : Nat → Nat → List Nat} {mk : Nat → Nat} {hot warm : Nat}
theorem and_f : ∀ v : Fin 16, (bits BinOp.and IntKind.i64 (v.val : Int) 1 != 0) = decide (v.val % 2 = 1) := by decide +kernel
theorem and_one (v : Nat) (h : v ≤ 15) : (bits BinOp.and IntKind.i64 (v : Int) 1 != 0) = decide (v % 2 = 1) := and_f ⟨v, by omega⟩
theorem not_f : ∀ v : Fin 16, bits BinOp.andNot IntKind.i64 (v.val : Int) 1 = ((v.val - v.val % 2 : Nat) : Int) := by decide +kernel
theorem not_one (v : Nat) (h : v ≤ 15) : bits BinOp.andNot IntKind.i64 (v : Int) 1 = ((v - v % 2 : Nat) : Int) := not_f ⟨v, by omega⟩
end
end Go.Proofs.YtjkdflnnpdionaaGreat
