import Derived.Test.YtohneboimmcocaaGreatSu
import Derived.Test.YtohneboimmcocaaGreatSv
/-
  begun, wakes.
-/
namespace Go.Proofs.YtohneboimmcocaaGreat
open Go.RowKit
set_option linter.unusedVariables false

theorem inv_new {ps m F s0 il n : Nat} (h : Cfg ps m F s0 il) (hn : n ≤ 62) (hc : Cls F (limOf il) s0 n) : Inv (A0 ps m n (chain F (limOf il) s0)) := by
  obtain ⟨bp0, bp1, bp2, bp3⟩ := h.bounds
  have hcf := chain_facts h.good
  have hs := h.good.s64
  refine ⟨⟨hc.1, hn, fun i _ => ?_, fun i _ => ?_, fun i _ => (hcf i).1, fun i j hij hj => chain_lt h.good hc hij hj, h.pw, ⟨h.m1, h.m2⟩⟩, Nat.zero_le _, fun p hp => absurd hp (Nat.not_lt_zero _), fun _ _ => by show 0 < 4294967296; omega, fun c _ x hx => ?_, fun p k hp => absurd hp (Nat.not_lt_zero _), fun c _ => List.nodup_nil, fun c _ => rfl, fun c _ => ?_⟩
  · have := (hcf i).2.1; show 64 ≤ chain F (limOf il) s0 i; omega
  · have := (hcf i).2.2; show chain F (limOf il) s0 i ≤ ps; omega
  · exact absurd hx (by show x ∉ ([] : List Nat); simp)
  · show ([] : List Nat).length + 0 = _ * _
    simp [A0]

/-- What the document's Set is at first. -/
structure IsR0 (w : World) (rb : Nat) (ps m F s0 il n : Nat) (base : Nat) (sv ov rv : Value) : Prop where
  lo : base ≤ rb
  box : Box w 181 rb (rset ps m F s0 il sv ov (.slice none 0 0) rv)
  sz : w.ownsRow base 3 1 sv n (ints (szL F (limOf il) s0 n))
  ow : w.ownsRow base 3 1 ov m (List.replicate m (.int .i64 (-1)))
  rw : w.ownsRow base 64 1 rv n (List.replicate n (.slice none 0 0))
  ne : sv.ownBlock ≠ ov.ownBlock
theorem IsR0.kept {w w' : World} {rb ps m F s0 il n base : Nat} {sv ov rv : Value} (h : IsR0 w rb ps m F s0 il n base sv ov rv) (hf : w.grownBy w' none) : IsR0 w' rb ps m F s0 il n base sv ov rv :=
  ⟨h.lo, h.box.kept hf (by simp), row_kept h.sz hf (by simp), row_kept h.ow hf (by simp), row_kept h.rw hf (by simp), h.ne⟩

end Go.Proofs.YtohneboimmcocaaGreat
