/-
  Going round the points.
-/
import Derived.Test.YtphhofbdekbggaaRc
namespace Go.Proofs.Ytphhofbdekbggaa
open Go.RowKit
set_option linter.unusedVariables false
set_option linter.unusedSimpArgs false

/-- The server of the k-th point from a beginning on. -/
def srv (ps : List Pt) (f k : Nat) : Int := (pat ps ((f + k) % ps.length)).2.1
/-- The servers met on the first k points. -/
def pre (ps : List Pt) (f : Nat) : Nat → List Int
  | 0 => []
  | k + 1 => if srv ps f k ∈ pre ps f k then pre ps f k else pre ps f k ++ [srv ps f k]
theorem pre_yes {ps : List Pt} {f k : Nat} (h : srv ps f k ∈ pre ps f k) : pre ps f (k + 1) = pre ps f k := by simp [pre, h]
theorem pre_no {ps : List Pt} {f k : Nat} (h : ¬ srv ps f k ∈ pre ps f k) : pre ps f (k + 1) = pre ps f k ++ [srv ps f k] := by simp [pre, h]
theorem pre_more (ps : List Pt) (f k : Nat) : ∀ j, ∃ t, pre ps f (k + j) = pre ps f k ++ t
  | 0 => ⟨[], by simp⟩
  | j + 1 => by
    obtain ⟨t, ht⟩ := pre_more ps f k j
    by_cases h : srv ps f (k + j) ∈ pre ps f (k + j)
    · exact ⟨t, by rw [← Nat.add_assoc, pre_yes h, ht]⟩
    · exact ⟨t ++ [srv ps f (k + j)], by rw [← Nat.add_assoc, pre_no h, ht, List.append_assoc]⟩
theorem pre_take (ps : List Pt) (f k n m : Nat) (h : k ≤ n) (hm : (pre ps f k).length = m) : (pre ps f n).take m = pre ps f k := by
  obtain ⟨t, ht⟩ := pre_more ps f k (n - k)
  rw [show k + (n - k) = n by omega] at ht
  rw [ht, ← hm, List.take_left]
theorem pre_len (ps : List Pt) (f k : Nat) : (pre ps f k).length ≤ k := by
  induction k with
  | zero => simp [pre]
  | succ k ih =>
    by_cases h : srv ps f k ∈ pre ps f k
    · rw [pre_yes h]; omega
    · rw [pre_no h]; simp; omega
theorem pre_nodup (ps : List Pt) (f k : Nat) : (pre ps f k).Nodup := by
  induction k with
  | zero => simp [pre]
  | succ k ih =>
    by_cases h : srv ps f k ∈ pre ps f k
    · rw [pre_yes h]; exact ih
    · rw [pre_no h, List.nodup_append]
      exact ⟨ih, by simp, fun a ha b hb => by simp at hb; subst hb; exact fun e => h (e ▸ ha)⟩
theorem pre_mem (ps : List Pt) (f k : Nat) (x : Int) (hx : x ∈ pre ps f k) : ∃ j, j < k ∧ x = srv ps f j := by
  induction k with
  | zero => simp [pre] at hx
  | succ k ih =>
    by_cases h : srv ps f k ∈ pre ps f k
    · rw [pre_yes h] at hx
      obtain ⟨j, hj, e⟩ := ih hx
      exact ⟨j, by omega, e⟩
    · rw [pre_no h] at hx
      rcases List.mem_append.1 hx with hx | hx
      · obtain ⟨j, hj, e⟩ := ih hx
        exact ⟨j, by omega, e⟩
      · simp at hx
        exact ⟨k, by omega, hx⟩
/-- Which servers of so many have been met. -/
def bts (n : Nat) (l : List Int) : List Value := (List.range n).map fun (x : Nat) => Value.bool (decide ((x : Int) ∈ l))
theorem bts_len (n : Nat) (l : List Int) : (bts n l).length = n := by simp [bts]
theorem bts_get (n : Nat) (l : List Int) (x : Nat) (h : x < n) : (bts n l).toArray[x]? = some (.bool (decide ((x : Int) ∈ l))) := by
  simp [bts, h]
theorem bts_set (n : Nat) (l : List Int) (x : Nat) (h : x < n) : (bts n l).toArray.setIfInBounds x (.bool true) = (bts n (l ++ [(x : Int)])).toArray := by
  apply Array.ext'
  apply List.ext_getElem?
  intro i
  simp only [List.setIfInBounds_toArray, List.getElem?_set, bts_len]
  by_cases hi : x = i
  · subst hi
    simp [bts, h]
  · have hi2 : ¬ i = x := fun e => hi e.symm
    have hi3 : ¬ (i : Int) = (x : Int) := by omega
    by_cases hn : i < n
    · simp [bts, hi, hi3, hn]
    · simp [bts, hi, hn]
theorem bts_zero (n : Nat) : bts n [] = List.replicate n (.bool false) := by
  apply List.ext_getElem?
  intro i
  by_cases h : i < n <;> simp [bts, h]
theorem Try.info4 : (Try.prog.info? 4).map (fun i => (i.zero, i.size, i.bytes)) = some (some (.bool false), 1, 1) := by kernel_rfl
theorem Try.info3 : (Try.prog.info? 3).map (fun i => (i.zero, i.size, i.bytes)) = some (some (.int .i64 0), 1, 8) := by kernel_rfl
theorem made_b (N : Nat) : madeCells (Value.bool false).cells N = (bts N []).toArray := by
  rw [bts_zero]
  apply Array.ext'
  apply List.ext_getElem?
  intro i
  by_cases h : i < N <;> simp [madeCells, Value.cells, h, Nat.mod_one]
theorem run_make_b (N : Nat) (h : N ≤ 512) (w : World) : (Instr.makeSlice 66 (.int .i64 N) (.int .i64 N)).run Try.prog w = .ok (.slice (some ⟨w.heap.size, 0, none⟩) N N) (w.alloc (.cells (bts N []).toArray 4)) := by
  obtain ⟨i0, hi, hz0, hz1, hz2⟩ := info_parts Try.info4
  have := run_make (P := Try.prog) w 66 4 i0 (.bool false) Try.underlying66 hi hz0 .i64 .i64 N N (by omega) (by omega) (by rw [hz2]; omega) (by omega)
  rw [this, hz1]
  simp [made_b]
section
variable {w : World} {ops : Array Oper} {rest : List Oper} {o : Oper} {a : Act} {Q : Exit → Act → World → Prop}
theorem push3 (hgd : o.guard = none) (s x : Operand) (ho : o.op = .call { callee := .builtin .append, args := #[s, x], argTypes := #[23, 23] })
    (B : Nat) (v : Value) (n : Nat) (xs : List Value) (hs : a.eval s = v) (hown : w.ownsRow B 3 1 v n xs) (u : Int) (hx : a.eval x = .slice (some ⟨w.heap.size, 0, none⟩) 1 1) (hn : n ≤ 100000000000) (hB : B ≤ w.heap.size)
    (h : ∀ g cap w', w'.ownsRow B 3 1 (.slice (some ⟨g, 0, none⟩) (n + 1) cap) (n + 1) (xs ++ [.int .i64 u]) → w.grownBy w' v.ownBlock → (v.ownBlock = some g ∨ w.heap.size ≤ g) → wpList Try.prog ops Q rest (a.put o.dst (.slice (some ⟨g, 0, none⟩) (n + 1) cap)) w') : wpList Try.prog ops Q (o :: rest) a (w.alloc (.cells #[.int .i64 u] 3)) := by
  obtain ⟨i0, hi, hz0, hz1, hz2⟩ := info_parts Try.info3
  exact wpList_pushN hgd s x 23 ho 3 i0 _ 1 8 Try.underlying23 hi hz0 hz1 hz2 rfl (by omega) (by omega) B v n xs hs hown [.int .i64 u] rfl (by simp [Value.oneCell']) hx hn hB h
end
end Go.Proofs.Ytphhofbdekbggaa
