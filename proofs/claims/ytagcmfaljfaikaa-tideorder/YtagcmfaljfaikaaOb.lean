/-
  TideOrder: last; rows of puts.
-/
import Derived.Test.YtagcmfaljfaikaaOa
namespace Go.Proofs.Ytagcmfaljfaikaa
open Go.RowKit
set_option linter.unusedVariables false

def putC (H E : Nat → Int) (i : Nat) : List Value := [.int .i64 (H i), .int .i64 (E i)]
theorem putC_len (H E : Nat → Int) (i : Nat) : (putC H E i).length = 2 := rfl
def seqC (q : Nat → En) (i : Nat) : List Value := [.int .i64 (q i).h, .int .i64 (q i).x]
theorem seqC_put (q : Nat → En) : seqC q = putC (fun i => (q i).h) (fun i => (q i).x) := rfl

theorem put_cells {w : World} {B g N c : Nat} {H E : Nat → Int} (h : w.ownsRow B 87 2 (.slice (some ⟨g, 0, none⟩) N c) N (rng N (putC H E))) {i : Nat} (hi : i < N) : w.cell? ⟨g, i * 2, none⟩ = some (.int .i64 (H i)) ∧ w.cell? ⟨g, i * 2 + 1, none⟩ = some (.int .i64 (E i)) := by
  refine ⟨row_cell h (i * 2) _ ?_, row_cell h (i * 2 + 1) _ ?_⟩
  · have := rng_get (putC_len H E) (n := N) (i := i) (j := 0) hi (by omega); simpa [putC] using this
  · have := rng_get (putC_len H E) (n := N) (i := i) (j := 1) hi (by omega); simpa [putC] using this

set_option maxRecDepth 100000 in
set_option maxHeartbeats 4000000 in
theorem last_34 {w : World} {B N : Nat} {v : Value} {H E : Nat → Int} (hr : w.ownsRow B 87 2 v N (rng N (putC H E))) (hN : N ≤ 1000) (h : Int) :
    Calls Try.prog 34 #[v, .int .i64 h] w fun y w' => y = .returned (.int .i64 (lastOf H N h)) ∧ w' = w := by
  obtain ⟨ao, cp, hdv, hnil, _, hmax, hpos⟩ := row_shape hr
  subst hdv
  have hw0 : IntKind.i64.wrap ((N : Int) - 1) = (N : Int) - 1 := by rw [IntKind.wrap_i64]; omega
  go_enter Try.func34, Try.ntmps34
  go_wp2
  go_loopw [5] (fun v wr => ∃ k : Nat, k ≤ N ∧ v = .int .i64 ((k : Int) - 1) ∧ wr = w ∧ ∀ j, k ≤ j → j < N → H j ≠ h) (fun v _ => (intOf v + 1).toNat)
  case atStart => exact ⟨N, Nat.le_refl _, by go_num, rfl, fun j h1 h2 => by omega⟩
  case round =>
    obtain ⟨k, hk, rfl, rfl, hno⟩ := hrel
    by_cases hk0 : k = 0
    · subst hk0
      have hl := lastOf_no (fun j hj => hno j (by omega) hj)
      clear hr hno
      go_wp2
      go_ret
      rw [hl]
      exact ⟨rfl, rfl⟩
    · obtain ⟨k, rfl⟩ : ∃ k', k = k' + 1 := ⟨k - 1, by omega⟩
      obtain ⟨g, rfl⟩ := hpos (by omega)
      obtain ⟨e0, e1⟩ := put_cells hr (i := k) (by omega)
      have hkk : ((k + 1 : Nat) : Int) - 1 = k := by omega
      rw [hkk]
      have hge : decide ((0 : Int) ≤ k) = true := by simp
      have hib : (k : Int) < N := by omega
      have hkw : IntKind.i64.wrap ((k : Int) - 1) = (k : Int) - 1 := by rw [IntKind.wrap_i64]; omega
      by_cases hh : H k = h
      · have hl := lastOf_at (a := k) (N := N) (by omega) hh (fun j j1 j2 => hno j (by omega) j2)
        have hbq : (H k == h) = true := by simp [hh]
        clear hr hno hkk
        go_wp2
        go_ret
        rw [hl]
        exact ⟨rfl, rfl⟩
      · have hbq : (H k == h) = false := by simp [hh]
        clear hr hkk
        go_wp2
        exact ⟨⟨k, by omega, by go_num, trivial, fun j j1 j2 => by
          by_cases e : j = k
          · subst e; exact hh
          · exact hno j (by omega) j2⟩, by simp [intOf]⟩

theorem Try.info87 : (Try.prog.info? 87).map (fun i => (i.zero, i.size, i.bytes)) = some (some (.agg #[.int .i64 0, .int .i64 0]), 2, 16) := by kernel_rfl
section
variable {w : World} {ops : Array Oper} {rest : List Oper} {o : Oper} {a : Act} {Q : Exit → Act → World → Prop}
theorem push87 (hgd : o.guard = none) (s x : Operand) (ho : o.op = .call { callee := .builtin .append, args := #[s, x], argTypes := #[84, 84] })
    (B : Nat) (v : Value) (n : Nat) (xs : List Value) (hs : a.eval s = v) (hown : w.ownsRow B 87 2 v n xs) (u1 u2 : Int) (hx : a.eval x = .slice (some ⟨w.heap.size, 0, none⟩) 1 1) (hn : n ≤ 100000000000) (hB : B ≤ w.heap.size)
    (h : ∀ g cap w', w'.ownsRow B 87 2 (.slice (some ⟨g, 0, none⟩) (n + 1) cap) (n + 1) (xs ++ [.int .i64 u1, .int .i64 u2]) → w.grownBy w' v.ownBlock → (v.ownBlock = some g ∨ w.heap.size ≤ g) → wpList Try.prog ops Q rest (a.put o.dst (.slice (some ⟨g, 0, none⟩) (n + 1) cap)) w') : wpList Try.prog ops Q (o :: rest) a (w.alloc (.cells #[.int .i64 u1, .int .i64 u2] 87)) := by
  obtain ⟨i0, hi, hz0, hz1, hz2⟩ := info_parts Try.info87
  exact wpList_pushN hgd s x 84 ho 87 i0 _ 2 16 Try.underlying84 hi hz0 hz1 hz2 rfl (by omega) (by omega) B v n xs hs hown [.int .i64 u1, .int .i64 u2] rfl (by simp [Value.oneCell']) hx hn hB h
end

end Go.Proofs.Ytagcmfaljfaikaa
