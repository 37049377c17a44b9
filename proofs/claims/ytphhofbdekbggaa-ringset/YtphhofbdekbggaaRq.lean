/-
  few: the law's own list of the same servers.
-/
import Derived.Test.YtphhofbdekbggaaRp
namespace Go.Proofs.Ytphhofbdekbggaa
open Go.RowKit Go.Sort
set_option linter.unusedVariables false
set_option linter.unusedSimpArgs false

section
variable {w : World} {ops : Array Oper} {rest : List Oper} {o : Oper} {a : Act} {Q : Exit → Act → World → Prop}
/-- append(l, s). -/
theorem pushS (hgd : o.guard = none) (s x : Operand) (ho : o.op = .call { callee := .builtin .append, args := #[s, x], argTypes := #[22, 22] })
    (B : Nat) (v : Value) (n : Nat) (xs : List Value) (hs : a.eval s = v) (hown : w.ownsRow B 26 2 v n xs) (p : Sv) (hx : a.eval x = .slice (some ⟨w.heap.size, 0, none⟩) 1 1) (hn : n ≤ 100000000000) (hB : B ≤ w.heap.size)
    (h : ∀ g cap w', w'.ownsRow B 26 2 (.slice (some ⟨g, 0, none⟩) (n + 1) cap) (n + 1) (xs ++ encSv p) → w.grownBy w' v.ownBlock → (v.ownBlock = some g ∨ w.heap.size ≤ g) → wpList Try.prog ops Q rest (a.put o.dst (.slice (some ⟨g, 0, none⟩) (n + 1) cap)) w') : wpList Try.prog ops Q (o :: rest) a (w.alloc (.cells #[.string p.1, .int .i64 p.2] 26)) := by
  obtain ⟨i0, hi, hz0, hz1, hz2⟩ := info_parts Try.info26
  exact wpList_pushN hgd s x 22 ho 26 i0 _ 2 24 Try.underlying22 hi hz0 hz1 hz2 rfl (by omega) (by omega) B v n xs hs hown (encSv p) rfl (by simp [encSv, Value.oneCell']) hx hn hB h
end
theorem flatS_take (ps : List Sv) (k : Nat) (hk : k < ps.length) : flatS (ps.take (k + 1)) = flatS (ps.take k) ++ encSv (sat ps k) := by
  have e : sat ps k = ps[k] := by simp [sat, hk]
  rw [e, List.take_succ_eq_append_getElem hk]
  unfold flatS
  rw [List.flatMap_append, List.flatMap_cons, List.flatMap_nil, List.append_nil]
set_option maxRecDepth 100000 in
set_option maxHeartbeats 2000000 in
theorem few_8 {w : World} {a : Option Addr} {g n c : Nat} {ps : List Sv} (h : SvAt w g ps) (hn : ps.length = n) (ha : 0 < n → a = some ⟨g, 0, none⟩) (hn2 : n ≤ 260) :
    Calls Try.prog 8 #[.slice a n c] w fun e w' => (∃ v, e = .returned v ∧ w'.ownsRow w.heap.size 26 2 v n (flatS ps)) ∧ w.grownBy w' none := by
  go_enter Try.func8, Try.ntmps8
  go_wp2_with fail
  generalize hB : w.heap.size = B at *
  go_loopw [3, 4] (fun l x wr => ∃ (k : Nat), k ≤ n ∧ x = .int .i64 k ∧ wr.ownsRow B 26 2 l k (flatS (ps.take k)) ∧ w.grownBy wr none) (fun _ x _ => n - (intOf x).toNat)
  case atStart => exact ⟨0, by omega, rfl, World.ownsRow_nil _ _ _ _, gb_refl _ _⟩
  case round =>
    obtain ⟨k, hk, rfl, hrow, hg⟩ := hrel
    obtain ⟨la, lc, rfl, hl1, hl2⟩ := row_shape hrow
    by_cases hlt : k < n
    · obtain rfl := ha (by omega)
      obtain ⟨c0, c1⟩ := (h.grown hg) k (by omega)
      have hft := flatS_take ps k (by omega)
      have hk260 : k < 260 := by omega
      have hBs : B ≤ wr.heap.size := by have := hg.size; omega
      have HX : Hid (∀ (g1 cap1 : Nat) (w4 : World), w4.ownsRow B 26 2 (.slice (some ⟨g1, 0, none⟩) (k + 1) cap1) (k + 1) (flatS (ps.take k) ++ encSv (sat ps k)) → wr.grownBy w4 (Value.slice la k lc).ownBlock → w4.ownsRow B 26 2 (.slice (some ⟨g1, 0, none⟩) (k + 1) cap1) (k + 1) (flatS (ps.take (k + 1))) ∧ w.grownBy w4 none) := fun g1 cap1 w4 h1 h2 => by
        rw [hft]
        exact ⟨h1, gb_far hg h2 (B := B) (fun q hq => (World.ownsRow.lt hrow q hq).1) (by omega)⟩
      clear h hg hft
      generalize sat ps k = p at *
      go_wp2_with (at_builtin; go_must (refine pushS rfl _ _ rfl B _ k _ (by rfl) hrow p (by rfl) (by omega) hBs ?_); intro g1 cap1 w4 ho4 hg4 hat4; (have HA4 : Hid _ := HX.out g1 cap1 w4 ho4 hg4); clear ho4 hg4 hat4)
      go_roundw
      case rel => exact ⟨k + 1, by omega, by go_num, HA4.out.1, HA4.out.2⟩
      case measure => simp [intOf]; omega
    · obtain rfl : k = n := by omega
      have HR : Hid (wr.ownsRow B 26 2 (.slice la k lc) k (flatS ps)) := by
        show wr.ownsRow B 26 2 _ _ _
        rw [List.take_of_length_le (by omega)] at hrow
        exact hrow
      clear h hrow
      go_wp2_with fail
      go_ret
      exact ⟨⟨_, rfl, by rw [hB]; exact HR.out⟩, hg⟩
end Go.Proofs.Ytphhofbdekbggaa
