/-
  A row of bytes of the call's own, lengthened by append.
-/
import Derived.Test.YtoaaaeefcipdcaaQ
import Derived.Laws.AppendOwnNone
namespace Go.Proofs.Ytoaaaeefcipdcaa
open Go.RowKit
set_option linter.unusedVariables false

/-- The slice (ao, length of us, cap) is a row of the call's own from block B on, and holds the bytes us. -/
def Own (B : Nat) (w : World) (ao : Option Addr) (cap : Nat) (us : List Int) : Prop := w.ownsRow B 5 1 (.slice ao us.length cap) us.length (us.map (Value.int .u8))

def blk (ao : Option Addr) : Option Nat := ao.map (·.block)
theorem ownBlock_blk (ao : Option Addr) (n c : Nat) : (Value.slice ao n c).ownBlock = blk ao := by cases ao <;> rfl

theorem Own.nil (B : Nat) (w : World) : Own B w none 0 [] := World.ownsRow_nil w B 5 1
theorem Own.has {B : Nat} {w : World} {ao : Option Addr} {cap : Nat} {us : List Int} (h : Own B w ao cap us) : Has w ao us.length us := by
  refine ⟨rfl, fun hn => ?_⟩
  rcases h.2 with ⟨_, h0⟩ | ⟨g, cap', cur, hv, _, hg, _⟩
  · omega
  · simp only [Value.slice.injEq] at hv
    obtain ⟨rfl, _, rfl⟩ := hv
    refine ⟨g, 0, rfl, fun i hi => ?_⟩
    have := h.cells (g := g) rfl i (.int .u8 (us.getD i 0)) (by simp [List.getD, hi])
    rw [Addr.add_mid] at this
    exact this
theorem Own.kept {B : Nat} {w w' : World} {ao : Option Addr} {cap : Nat} {us : List Int} (h : Own B w ao cap us) {row : Option Nat} (hf : w.grownBy w' row) (hne : blk ao = none ∨ blk ao ≠ row) : Own B w' ao cap us :=
  World.ownsRow.kept h hf (by rw [ownBlock_blk]; exact hne)
theorem Own.lt {B : Nat} {w : World} {ao : Option Addr} {cap : Nat} {us : List Int} (h : Own B w ao cap us) : ∀ k, blk ao = some k → B ≤ k ∧ k < w.heap.size := by
  intro k hk
  exact World.ownsRow.lt h k (by rw [ownBlock_blk]; exact hk)
theorem Own.nilcap {B : Nat} {w : World} {cap : Nat} {us : List Int} (h : Own B w none cap us) : cap = 0 ∧ us = [] := by
  rcases h.2 with ⟨h1, h2⟩ | ⟨g, c, cur, hv, _⟩
  · simp at h1 h2; exact ⟨h1.2, h2⟩
  · simp at hv

/-- What an append leaves: blocks below B are as they were. -/
theorem gb_far {a b c : World} {row : Option Nat} {B : Nat} (h : a.grownBy b none) (k : b.grownBy c row) (hr : ∀ i, row = some i → B ≤ i) (hB : a.heap.size ≤ B) : a.grownBy c none :=
  ⟨k.os.trans h.os, k.tape.trans h.tape, k.output.trans h.output, Nat.le_trans h.size k.size, fun i hi _ => (k.block i (Nat.lt_of_lt_of_le hi h.size) (fun e => by have := hr i e.symm; omega)).trans (h.block i hi (by simp))⟩
theorem far_ne {row : Option Nat} {B k : Nat} (hr : ∀ i, row = some i → B ≤ i) (hk : k < B) : some k ≠ row := fun e => by have := hr k e.symm; omega

section
variable {w : World} {ops : Array Oper} {rest : List Oper} {o : Oper} {a : Act} {Q : Exit → Act → World → Prop}

/-- append(l, b...): the bytes of whatever slice. -/
theorem wpList_more (hgd : o.guard = none) (s x : Operand) (ho : o.op = .call { callee := .builtin .append, args := #[s, x], argTypes := #[42, 42] }) (B : Nat) (ao : Option Addr) (cap : Nat) (us : List Int)
    (hs : a.eval s = .slice ao us.length cap) (hown : Own B w ao cap us) (ad : Option Addr) (n c : Nat) (ys : List Int) (hx : a.eval x = .slice ad n c) (hy : Has w ad n ys) (hc : ad = none → c = 0) (hlen : us.length + n ≤ 140737488355328) (hB : B ≤ w.heap.size)
    (h : ∀ ao' cap' w', Own B w' ao' cap' (us ++ ys) → w.grownBy w' (blk ao) → wpList Try.prog ops Q rest (a.put o.dst (.slice ao' (us.length + n) cap')) w') : wpList Try.prog ops Q (o :: rest) a w := by
  obtain ⟨i0, hi, hz0, hz1, hz2⟩ := info_parts Try.info5
  obtain ⟨hl, hcells⟩ := hy
  cases ad with
  | none =>
    have hn : n = 0 := by
      rcases Nat.eq_zero_or_pos n with h1 | h1
      · exact h1
      · obtain ⟨_, _, h2, _⟩ := hcells h1; cases h2
    subst hn
    obtain rfl : ys = [] := List.eq_nil_of_length_eq_zero hl
    have hc0 := hc rfl
    subst hc0
    refine wpList_append_own_none hgd s x 42 ho B 5 i0 1 Try.underlying42 hi _ _ _ hs hown hx ?_
    have := h ao cap w (by simpa using hown) (gb_refl _ _)
    simpa using this
  | some ad =>
    refine wpList_append_own w hgd s x 42 ho B 5 i0 (.int .u8 0) 1 1 Try.underlying42 hi hz0 hz1 hz2 rfl (by decide) _ _ _ hs hown ad n c (ys.map (Value.int .u8)) hx (by simpa using hl) ?_ ?_ ?_ ?_ hB ?_
    · intro j u hj
      have hjn : j < n := by
        have := (List.getElem?_eq_some_iff.1 hj).1
        simp at this; omega
      obtain ⟨bb, oo, e1, e2⟩ := hcells (by omega)
      cases e1
      rw [Addr.add_mid, e2 j hjn, ← hj]
      simp [List.getD, show j < ys.length by omega]
    · intro u hu
      obtain ⟨z, _, rfl⟩ := List.mem_map.1 hu
      rfl
    · unfold maxLen; omega
    · omega
    · intro v' w' hown' hgr _
      rcases hown'.2 with ⟨hv, hn0⟩ | ⟨g, cap', cur, hv, hb, hg, h1, h2, h3, h4⟩
      · subst hv
        have e0 : us = [] := List.eq_nil_of_length_eq_zero (by omega)
        have e1 : ys = [] := List.eq_nil_of_length_eq_zero (by omega)
        subst e0; subst e1
        have hn0' : n = 0 := by simpa using hl.symm
        subst hn0'
        rw [ownBlock_blk] at hgr
        exact h none 0 w' (Own.nil _ _) hgr
      · subst hv
        rw [ownBlock_blk] at hgr
        refine h (some ⟨g, 0, none⟩) cap' w' ?_ hgr
        unfold Own
        rw [List.length_append, hl, List.map_append]
        exact hown'

/-- append(l, z): one byte, laid in a block of its own first. -/
theorem wpList_push (hgd : o.guard = none) (s x : Operand) (ho : o.op = .call { callee := .builtin .append, args := #[s, x], argTypes := #[42, 42] }) (B : Nat) (ao : Option Addr) (cap : Nat) (us : List Int) (z : Int)
    (hs : a.eval s = .slice ao us.length cap) (hown : Own B w ao cap us) (hx : a.eval x = .slice (some ⟨w.heap.size, 0, none⟩) 1 1) (hlen : us.length + 1 ≤ 140737488355328) (hB : B ≤ w.heap.size)
    (h : ∀ ao' cap' w', Own B w' ao' cap' (us ++ [z]) → w.grownBy w' (blk ao) → wpList Try.prog ops Q rest (a.put o.dst (.slice ao' (us.length + 1) cap')) w') : wpList Try.prog ops Q (o :: rest) a (w.alloc (.cells #[.int .u8 z] 5)) := by
  refine wpList_more hgd s x ho B ao cap us hs (World.ownsRow.alloc hown _) _ 1 1 [z] hx ⟨rfl, fun _ => ⟨_, _, rfl, fun i hi => ?_⟩⟩ (by simp) hlen (by simp; omega) ?_
  · obtain rfl : i = 0 := by omega
    simp
  · intro ao' cap' w' h1 h2
    exact h ao' cap' w' h1 (gb_trans (World.grownBy_alloc _ _ _) h2)
end

end Go.Proofs.Ytoaaaeefcipdcaa
