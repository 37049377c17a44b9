import Derived.Test.YtndjimdegkdljaaMg
import Derived.Test.YtndjimdegkdljaaT
/-
  New disks; what a disk tells.
-/
namespace Go.Proofs.Ytndjimdegkdljaa
open Go.RowKit Go.MapKept
set_option linter.unusedVariables false
set_option linter.unusedSimpArgs false
attribute [local go_sem] Oper.semAt_some

/-- An empty disk. -/
def md0 (n : Int) : Md := ⟨n, 0, [], fun _ => none, [], fun _ => none, false⟩
theorem md0_ok {n : Int} (h0 : 0 ≤ n) (h1 : n ≤ 1099511627776) : (md0 n).Ok :=
  ⟨h0, h1, fun s k h => (by cases h), fun c h => (by cases h), fun j c h => (by simp [md0] at h), fun f h => (by cases h), Nat.le_refl _, Nat.le_refl _, Nat.zero_le _, fun f h => (by cases h)⟩
theorem md0_reach {n : Int} {k : Nat} (h : Reach (md0 n) k) : False := by
  rcases h with ⟨s, h⟩ | ⟨c, h, _⟩
  · cases h
  · cases h
def pl0 (z : Nat) : Pl := ⟨z + 2, z, z + 1, .map none, .slice none 0 0, fun _ => 0, fun _ => .slice none 0 0, fun b => if b = z + 2 then 1 else if b = z then 2 else if b = z + 1 then 3 else 0⟩
theorem mk71 (w : World) : (Instr.makeMap 71 none).run Try.prog w = .ok (.map (some w.heap.size)) (w.alloc (.map #[] 0)) := by
  simp [Instr.makeMap, Result.andThen]
set_option maxRecDepth 100000 in
theorem new_6 (n : Int) (h0 : 0 ≤ n) (h1 : n ≤ 1099511627776) (w : World) :
    Calls Try.prog 6 #[.int .i64 n] w fun e w' => ∃ p, e = .returned (.tuple #[pv p.d, .nilIface]) ∧ RP w' p (md0 n) ∧ w.grownBy w' none ∧ ∀ b, b < w.heap.size → p.col b = 0 := by
  have d0 : decide (n < 0) = false := decide_eq_false (by omega)
  have d0' : ¬ n < 0 := by omega
  have d1 : decide ((1099511627776 : Int) < n) = false := decide_eq_false (by omega)
  have d1' : ¬ (1099511627776 : Int) < n := by omega
  have mk := mk71
  go_enter Try.func6, Try.ntmps6
  go_wp2
  go_ret2
  have g1 := gb_alloc (gb_refl w none) (.map #[] 0)
  have g2 := gb_alloc g1 (.map #[] 0)
  have g3 := gb_alloc g2 (.cells #[.int .i64 n, .int .i64 0, .int .i64 0, .bool true, .map none, .map (some w.heap.size), .map (some (w.heap.size + 1)), .slice none 0 0] 75)
  have M1 := NmM.made w (pl0 w.heap.size).fb
  have M2 := NmM.made (w.alloc (.map #[] 0)) (pl0 w.heap.size).fb
  rw [show (w.alloc (.map #[] 0)).heap.size = w.heap.size + 1 by simp] at M2
  have B3 := Box.new ((w.alloc (.map #[] 0)).alloc (.map #[] 0)) 75 #[.int .i64 n, .int .i64 0, .int .i64 0, .bool true, .map none, .map (some w.heap.size), .map (some (w.heap.size + 1)), .slice none 0 0]
  rw [show ((w.alloc (.map #[] 0)).alloc (.map #[] 0)).heap.size = w.heap.size + 2 by simp] at B3
  refine ⟨pl0 w.heap.size, rfl, ?_, g3, fun b hb => ?_⟩
  · exact {
      box := B3
      nm := (M1.kept (gb_alloc (gb_refl _ none) _) (by simp)).kept (gb_alloc (gb_refl _ none) _) (by simp)
      sf := M2.kept (gb_alloc (gb_refl _ none) _) (by simp)
      pl := .inl ⟨rfl, fun _ => rfl⟩
      ch := World.ownsRow_nil _ _ _ _
      fl := fun k f hr => (md0_reach hr).elim
      cd := by simp [pl0]
      cn := by simp [pl0]
      cs := by simp [pl0]
      cp := fun b hb => by simp [pl0] at hb
      cc := fun b hb => by simp [pl0, Value.ownBlock] at hb
      cf := fun k hr => (md0_reach hr).elim
      cr := fun k b hr => (md0_reach hr).elim
      lt := fun b hb => by
        simp only [pl0] at hb
        simp
        split at hb
        · omega
        · split at hb
          · omega
          · split at hb
            · omega
            · exact absurd rfl hb
      ok := md0_ok h0 h1 }
  · simp only [pl0]
    rw [if_neg (by omega), if_neg (by omega), if_neg (by omega)]
def rl0 (z : Nat) : Rl := ⟨z, .slice none 0 0, .slice none 0 0, .slice none 0 0, .slice none 0 0, fun _ => .slice none 0 0, fun b => if b = z then 1 else 0⟩
set_option maxRecDepth 100000 in
theorem rnew_7 (n : Int) (h0 : 0 ≤ n) (h1 : n ≤ 1099511627776) (w : World) :
    Calls Try.prog 7 #[.int .i64 n] w fun e w' => ∃ r, e = .returned (.tuple #[pv r.d, fltO [] [] 0]) ∧ RR w' r (md0 n) ∧ w.grownBy w' none ∧ ∀ b, b < w.heap.size → r.col b = 0 := by
  have d0 : decide (n < 0) = false := decide_eq_false (by omega)
  have d0' : ¬ n < 0 := by omega
  have d1 : decide ((1099511627776 : Int) < n) = false := decide_eq_false (by omega)
  have d1' : ¬ (1099511627776 : Int) < n := by omega
  go_enter Try.func7, Try.ntmps7
  go_wp2
  have g1 := gb_alloc (gb_refl w none) (.cells #[sv [], sv [], .int .i64 0] 34)
  have g2 := gb_alloc g1 (.cells #[.int .i64 n, .slice none 0 0, .slice none 0 0, .slice none 0 0, .int .i64 0, .slice none 0 0, .bool false] 80)
  have B2 := Box.new (w.alloc (.cells #[sv [], sv [], .int .i64 0] 34)) 80 #[.int .i64 n, .slice none 0 0, .slice none 0 0, .slice none 0 0, .int .i64 0, .slice none 0 0, .bool false]
  rw [show (w.alloc (.cells #[sv [], sv [], .int .i64 0] 34)).heap.size = w.heap.size + 1 by simp] at B2
  have B1 := (Box.new w 34 #[sv [], sv [], .int .i64 0]).kept (gb_alloc (gb_refl _ none) (.cells #[.int .i64 n, .slice none 0 0, .slice none 0 0, .slice none 0 0, .int .i64 0, .slice none 0 0, .bool false] 80)) (by simp)
  refine bodyPost_ret (v := .tuple #[pv (w.heap.size + 1), .agg #[sv [], sv [], .int .i64 0]]) (by simp [results, Try.results7, go_sem]) rfl ⟨rl0 (w.heap.size + 1), rfl, ?_, g2, fun b hb => ?_⟩
  · exact {
      box := B2
      fl := World.ownsRow_nil _ _ _ _
      fr := fun k hk => absurd hk (Nat.not_lt_zero _)
      sf := ⟨[], World.ownsRow_nil _ _ _ _, Rep.nil, Nat.le_refl _⟩
      ch := World.ownsRow_nil _ _ _ _
      pl := ⟨[], World.ownsRow_nil _ _ _ _, Nat.zero_le _, fun i => rfl⟩
      cd := by simp [rl0]
      cf := fun b hb => by simp [rl0, Value.ownBlock] at hb
      cs := fun b hb => by simp [rl0, Value.ownBlock] at hb
      cc := fun b hb => by simp [rl0, Value.ownBlock] at hb
      cp := fun b hb => by simp [rl0, Value.ownBlock] at hb
      cr := fun k b hk => absurd hk (Nat.not_lt_zero _)
      lt := fun b hb => by
        simp only [rl0] at hb
        simp
        split at hb
        · omega
        · exact absurd rfl hb
      ok := md0_ok h0 h1 }
  · simp only [rl0]
    rw [if_neg (by omega)]
theorem power_22 {w : World} {p : Pl} {M : Md} (h : RP w p M) : Calls Try.prog 22 #[pv p.d] w fun e w' => e = .returned (.bool (!M.dark)) ∧ w' = w := by
  have c3 : w.cell? ⟨p.d, 3, none⟩ = some (.bool (!M.dark)) := h.box.cell 3
  go_enter Try.func22, Try.ntmps22
  go_wp2
  go_ret
  exact ⟨rfl, rfl⟩
theorem acts_28 {w : World} {p : Pl} {M : Md} (h : RP w p M) : Calls Try.prog 28 #[pv p.d] w fun e w' => e = .returned (.int .i64 (M.acts : Int)) ∧ w' = w := by
  have c1 : w.cell? ⟨p.d, 1, none⟩ = some (.int .i64 (M.acts : Int)) := h.box.cell 1
  go_enter Try.func28, Try.ntmps28
  go_wp2
  go_ret
  exact ⟨rfl, rfl⟩
end Go.Proofs.Ytndjimdegkdljaa
