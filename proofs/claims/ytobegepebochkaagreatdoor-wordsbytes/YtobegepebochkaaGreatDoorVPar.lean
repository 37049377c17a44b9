import Derived.Test.YtobegepebochkaaGreatDoorVPaq
import Derived.Test.YtobegepebochkaaGreatDoorVH
import Derived.Test.YtobegepebochkaaGreatDoorVPaj
set_option linter.unusedVariables false
set_option linter.unusedSimpArgs false
namespace Go.Proofs.YtobegepebochkaaGreatDoor
open Go.RowKit Go.Maps
attribute [local go_sem] Oper.semAt_some
structure Dr where
  shape : Bs
  least : Nat
  again : Bool
  reply : Bool
  block : Bool
def drL : List Dr := [⟨[75], 1, true, false, false⟩, ⟨[75], 1, true, false, false⟩, ⟨[84, 75], 2, true, false, false⟩, ⟨[84, 75], 2, true, false, false⟩, ⟨[75, 70, 84, 78], 4, false, true, true⟩, ⟨[75, 70, 84, 78], 4, false, true, true⟩, ⟨[75, 70, 84, 78], 4, false, true, true⟩, ⟨[75, 70, 84, 78], 4, false, true, true⟩, ⟨[75, 70, 84, 78], 4, false, true, true⟩, ⟨[75, 70, 84, 78, 67], 5, false, true, true⟩, ⟨[75, 90], 1, false, true, false⟩, ⟨[75, 68], 2, false, true, false⟩, ⟨[75, 68], 2, false, true, false⟩, ⟨[75, 84], 2, false, true, false⟩, ⟨[83], 0, false, true, false⟩, ⟨[], 0, false, false, false⟩, ⟨[86], 1, false, true, false⟩, ⟨[], 0, false, false, false⟩, ⟨[87], 0, false, false, false⟩, ⟨[75, 71], 1, true, false, false⟩, ⟨[75, 78, 71], 2, true, false, true⟩, ⟨[75, 71], 1, true, false, false⟩, ⟨[75, 71], 1, true, false, false⟩, ⟨[], 0, false, false, false⟩]
def dr (i : Nat) : Dr := drL.getD i ⟨[], 0, false, false, false⟩
abbrev drA (i : Nat) : Array Value := #[.int .i64 ((i : Int) + 1), sv (dr i).shape, .int .i64 ((dr i).least : Nat), .bool (dr i).again, .bool (dr i).reply, .bool (dr i).block]
theorem res58 {w : World} {b : Nat} {c0 c1 c2 c3 c4 c5 : Value} (h : Box w 111 b #[c0, c1, c2, c3, c4, c5]) (tmps : Array Value) (h2 : tmps[2]?.getD undef = .pointer (some ⟨b, 0, none⟩)) : (results Tryz.f58 tmps).run Tryz.prog w = .ok (.agg #[c0, c1, c2, c3, c4, c5]) w := by
  have hr : Tryz.f58.results = #[.cell 2 111] := rfl
  have p0 := h.cell 0
  have p1 := h.cell 1
  have p2 := h.cell 2
  have p3 := h.cell 3
  have p4 := h.cell 4
  have p5 := h.cell 5
  simp at p0 p1 p2 p3 p4 p5
  unfold results
  simp [hr, h2, go_sem, p0, p1, p2, p3, p4, p5]
set_option maxRecDepth 100000 in
theorem rowOf_58_0 (w : World) : Calls Tryz.prog 58 #[.int .i64 1] w fun e w' => e = .returned (.agg #[.int .i64 1, .string ⟨#[75]⟩, .int .i64 1, .bool true, .bool false, .bool false]) ∧ w.grownBy w' none := by
  go_enter Tryz.func58, Tryz.ntmps58
  go_wp2
  exact ⟨rfl, _, res58 (Box.new w 111 #[.int .i64 1, .string ⟨#[75]⟩, .int .i64 1, .bool true, .bool false, .bool false]) _ rfl, rfl, gb_alloc (gb_refl w none) _⟩
set_option maxRecDepth 100000 in
theorem rowOf_58_1 (w : World) : Calls Tryz.prog 58 #[.int .i64 2] w fun e w' => e = .returned (.agg #[.int .i64 2, .string ⟨#[75]⟩, .int .i64 1, .bool true, .bool false, .bool false]) ∧ w.grownBy w' none := by
  go_enter Tryz.func58, Tryz.ntmps58
  go_wp2
  exact ⟨rfl, _, res58 (Box.new w 111 #[.int .i64 2, .string ⟨#[75]⟩, .int .i64 1, .bool true, .bool false, .bool false]) _ rfl, rfl, gb_alloc (gb_refl w none) _⟩
set_option maxRecDepth 100000 in
theorem rowOf_58_2 (w : World) : Calls Tryz.prog 58 #[.int .i64 3] w fun e w' => e = .returned (.agg #[.int .i64 3, .string ⟨#[84, 75]⟩, .int .i64 2, .bool true, .bool false, .bool false]) ∧ w.grownBy w' none := by
  go_enter Tryz.func58, Tryz.ntmps58
  go_wp2
  exact ⟨rfl, _, res58 (Box.new w 111 #[.int .i64 3, .string ⟨#[84, 75]⟩, .int .i64 2, .bool true, .bool false, .bool false]) _ rfl, rfl, gb_alloc (gb_refl w none) _⟩
set_option maxRecDepth 100000 in
theorem rowOf_58_3 (w : World) : Calls Tryz.prog 58 #[.int .i64 4] w fun e w' => e = .returned (.agg #[.int .i64 4, .string ⟨#[84, 75]⟩, .int .i64 2, .bool true, .bool false, .bool false]) ∧ w.grownBy w' none := by
  go_enter Tryz.func58, Tryz.ntmps58
  go_wp2
  exact ⟨rfl, _, res58 (Box.new w 111 #[.int .i64 4, .string ⟨#[84, 75]⟩, .int .i64 2, .bool true, .bool false, .bool false]) _ rfl, rfl, gb_alloc (gb_refl w none) _⟩
set_option maxRecDepth 100000 in
theorem rowOf_58_4 (w : World) : Calls Tryz.prog 58 #[.int .i64 5] w fun e w' => e = .returned (.agg #[.int .i64 5, .string ⟨#[75, 70, 84, 78]⟩, .int .i64 4, .bool false, .bool true, .bool true]) ∧ w.grownBy w' none := by
  go_enter Tryz.func58, Tryz.ntmps58
  go_wp2
  exact ⟨rfl, _, res58 (Box.new w 111 #[.int .i64 5, .string ⟨#[75, 70, 84, 78]⟩, .int .i64 4, .bool false, .bool true, .bool true]) _ rfl, rfl, gb_alloc (gb_refl w none) _⟩
set_option maxRecDepth 100000 in
theorem rowOf_58_5 (w : World) : Calls Tryz.prog 58 #[.int .i64 6] w fun e w' => e = .returned (.agg #[.int .i64 6, .string ⟨#[75, 70, 84, 78]⟩, .int .i64 4, .bool false, .bool true, .bool true]) ∧ w.grownBy w' none := by
  go_enter Tryz.func58, Tryz.ntmps58
  go_wp2
  exact ⟨rfl, _, res58 (Box.new w 111 #[.int .i64 6, .string ⟨#[75, 70, 84, 78]⟩, .int .i64 4, .bool false, .bool true, .bool true]) _ rfl, rfl, gb_alloc (gb_refl w none) _⟩
set_option maxRecDepth 100000 in
theorem rowOf_58_6 (w : World) : Calls Tryz.prog 58 #[.int .i64 7] w fun e w' => e = .returned (.agg #[.int .i64 7, .string ⟨#[75, 70, 84, 78]⟩, .int .i64 4, .bool false, .bool true, .bool true]) ∧ w.grownBy w' none := by
  go_enter Tryz.func58, Tryz.ntmps58
  go_wp2
  exact ⟨rfl, _, res58 (Box.new w 111 #[.int .i64 7, .string ⟨#[75, 70, 84, 78]⟩, .int .i64 4, .bool false, .bool true, .bool true]) _ rfl, rfl, gb_alloc (gb_refl w none) _⟩
set_option maxRecDepth 100000 in
theorem rowOf_58_7 (w : World) : Calls Tryz.prog 58 #[.int .i64 8] w fun e w' => e = .returned (.agg #[.int .i64 8, .string ⟨#[75, 70, 84, 78]⟩, .int .i64 4, .bool false, .bool true, .bool true]) ∧ w.grownBy w' none := by
  go_enter Tryz.func58, Tryz.ntmps58
  go_wp2
  exact ⟨rfl, _, res58 (Box.new w 111 #[.int .i64 8, .string ⟨#[75, 70, 84, 78]⟩, .int .i64 4, .bool false, .bool true, .bool true]) _ rfl, rfl, gb_alloc (gb_refl w none) _⟩
set_option maxRecDepth 100000 in
theorem rowOf_58_8 (w : World) : Calls Tryz.prog 58 #[.int .i64 9] w fun e w' => e = .returned (.agg #[.int .i64 9, .string ⟨#[75, 70, 84, 78]⟩, .int .i64 4, .bool false, .bool true, .bool true]) ∧ w.grownBy w' none := by
  go_enter Tryz.func58, Tryz.ntmps58
  go_wp2
  exact ⟨rfl, _, res58 (Box.new w 111 #[.int .i64 9, .string ⟨#[75, 70, 84, 78]⟩, .int .i64 4, .bool false, .bool true, .bool true]) _ rfl, rfl, gb_alloc (gb_refl w none) _⟩
set_option maxRecDepth 100000 in
theorem rowOf_58_9 (w : World) : Calls Tryz.prog 58 #[.int .i64 10] w fun e w' => e = .returned (.agg #[.int .i64 10, .string ⟨#[75, 70, 84, 78, 67]⟩, .int .i64 5, .bool false, .bool true, .bool true]) ∧ w.grownBy w' none := by
  go_enter Tryz.func58, Tryz.ntmps58
  go_wp2
  exact ⟨rfl, _, res58 (Box.new w 111 #[.int .i64 10, .string ⟨#[75, 70, 84, 78, 67]⟩, .int .i64 5, .bool false, .bool true, .bool true]) _ rfl, rfl, gb_alloc (gb_refl w none) _⟩
set_option maxRecDepth 100000 in
theorem rowOf_58_10 (w : World) : Calls Tryz.prog 58 #[.int .i64 11] w fun e w' => e = .returned (.agg #[.int .i64 11, .string ⟨#[75, 90]⟩, .int .i64 1, .bool false, .bool true, .bool false]) ∧ w.grownBy w' none := by
  go_enter Tryz.func58, Tryz.ntmps58
  go_wp2
  exact ⟨rfl, _, res58 (Box.new w 111 #[.int .i64 11, .string ⟨#[75, 90]⟩, .int .i64 1, .bool false, .bool true, .bool false]) _ rfl, rfl, gb_alloc (gb_refl w none) _⟩
set_option maxRecDepth 100000 in
theorem rowOf_58_11 (w : World) : Calls Tryz.prog 58 #[.int .i64 12] w fun e w' => e = .returned (.agg #[.int .i64 12, .string ⟨#[75, 68]⟩, .int .i64 2, .bool false, .bool true, .bool false]) ∧ w.grownBy w' none := by
  go_enter Tryz.func58, Tryz.ntmps58
  go_wp2
  exact ⟨rfl, _, res58 (Box.new w 111 #[.int .i64 12, .string ⟨#[75, 68]⟩, .int .i64 2, .bool false, .bool true, .bool false]) _ rfl, rfl, gb_alloc (gb_refl w none) _⟩
set_option maxRecDepth 100000 in
theorem rowOf_58_12 (w : World) : Calls Tryz.prog 58 #[.int .i64 13] w fun e w' => e = .returned (.agg #[.int .i64 13, .string ⟨#[75, 68]⟩, .int .i64 2, .bool false, .bool true, .bool false]) ∧ w.grownBy w' none := by
  go_enter Tryz.func58, Tryz.ntmps58
  go_wp2
  exact ⟨rfl, _, res58 (Box.new w 111 #[.int .i64 13, .string ⟨#[75, 68]⟩, .int .i64 2, .bool false, .bool true, .bool false]) _ rfl, rfl, gb_alloc (gb_refl w none) _⟩
set_option maxRecDepth 100000 in
theorem rowOf_58_13 (w : World) : Calls Tryz.prog 58 #[.int .i64 14] w fun e w' => e = .returned (.agg #[.int .i64 14, .string ⟨#[75, 84]⟩, .int .i64 2, .bool false, .bool true, .bool false]) ∧ w.grownBy w' none := by
  go_enter Tryz.func58, Tryz.ntmps58
  go_wp2
  exact ⟨rfl, _, res58 (Box.new w 111 #[.int .i64 14, .string ⟨#[75, 84]⟩, .int .i64 2, .bool false, .bool true, .bool false]) _ rfl, rfl, gb_alloc (gb_refl w none) _⟩
set_option maxRecDepth 100000 in
theorem rowOf_58_14 (w : World) : Calls Tryz.prog 58 #[.int .i64 15] w fun e w' => e = .returned (.agg #[.int .i64 15, .string ⟨#[83]⟩, .int .i64 0, .bool false, .bool true, .bool false]) ∧ w.grownBy w' none := by
  go_enter Tryz.func58, Tryz.ntmps58
  go_wp2
  exact ⟨rfl, _, res58 (Box.new w 111 #[.int .i64 15, .string ⟨#[83]⟩, .int .i64 0, .bool false, .bool true, .bool false]) _ rfl, rfl, gb_alloc (gb_refl w none) _⟩
set_option maxRecDepth 100000 in
theorem rowOf_58_15 (w : World) : Calls Tryz.prog 58 #[.int .i64 16] w fun e w' => e = .returned (.agg #[.int .i64 16, .string ⟨#[]⟩, .int .i64 0, .bool false, .bool false, .bool false]) ∧ w.grownBy w' none := by
  go_enter Tryz.func58, Tryz.ntmps58
  go_wp2
  exact ⟨rfl, _, res58 (Box.new w 111 #[.int .i64 16, .string ⟨#[]⟩, .int .i64 0, .bool false, .bool false, .bool false]) _ rfl, rfl, gb_alloc (gb_refl w none) _⟩
set_option maxRecDepth 100000 in
theorem rowOf_58_16 (w : World) : Calls Tryz.prog 58 #[.int .i64 17] w fun e w' => e = .returned (.agg #[.int .i64 17, .string ⟨#[86]⟩, .int .i64 1, .bool false, .bool true, .bool false]) ∧ w.grownBy w' none := by
  go_enter Tryz.func58, Tryz.ntmps58
  go_wp2
  exact ⟨rfl, _, res58 (Box.new w 111 #[.int .i64 17, .string ⟨#[86]⟩, .int .i64 1, .bool false, .bool true, .bool false]) _ rfl, rfl, gb_alloc (gb_refl w none) _⟩
set_option maxRecDepth 100000 in
theorem rowOf_58_17 (w : World) : Calls Tryz.prog 58 #[.int .i64 18] w fun e w' => e = .returned (.agg #[.int .i64 18, .string ⟨#[]⟩, .int .i64 0, .bool false, .bool false, .bool false]) ∧ w.grownBy w' none := by
  go_enter Tryz.func58, Tryz.ntmps58
  go_wp2
  exact ⟨rfl, _, res58 (Box.new w 111 #[.int .i64 18, .string ⟨#[]⟩, .int .i64 0, .bool false, .bool false, .bool false]) _ rfl, rfl, gb_alloc (gb_refl w none) _⟩
set_option maxRecDepth 100000 in
theorem rowOf_58_18 (w : World) : Calls Tryz.prog 58 #[.int .i64 19] w fun e w' => e = .returned (.agg #[.int .i64 19, .string ⟨#[87]⟩, .int .i64 0, .bool false, .bool false, .bool false]) ∧ w.grownBy w' none := by
  go_enter Tryz.func58, Tryz.ntmps58
  go_wp2
  exact ⟨rfl, _, res58 (Box.new w 111 #[.int .i64 19, .string ⟨#[87]⟩, .int .i64 0, .bool false, .bool false, .bool false]) _ rfl, rfl, gb_alloc (gb_refl w none) _⟩
set_option maxRecDepth 100000 in
theorem rowOf_58_19 (w : World) : Calls Tryz.prog 58 #[.int .i64 20] w fun e w' => e = .returned (.agg #[.int .i64 20, .string ⟨#[75, 71]⟩, .int .i64 1, .bool true, .bool false, .bool false]) ∧ w.grownBy w' none := by
  go_enter Tryz.func58, Tryz.ntmps58
  go_wp2
  exact ⟨rfl, _, res58 (Box.new w 111 #[.int .i64 20, .string ⟨#[75, 71]⟩, .int .i64 1, .bool true, .bool false, .bool false]) _ rfl, rfl, gb_alloc (gb_refl w none) _⟩
set_option maxRecDepth 100000 in
theorem rowOf_58_20 (w : World) : Calls Tryz.prog 58 #[.int .i64 21] w fun e w' => e = .returned (.agg #[.int .i64 21, .string ⟨#[75, 78, 71]⟩, .int .i64 2, .bool true, .bool false, .bool true]) ∧ w.grownBy w' none := by
  go_enter Tryz.func58, Tryz.ntmps58
  go_wp2
  exact ⟨rfl, _, res58 (Box.new w 111 #[.int .i64 21, .string ⟨#[75, 78, 71]⟩, .int .i64 2, .bool true, .bool false, .bool true]) _ rfl, rfl, gb_alloc (gb_refl w none) _⟩
set_option maxRecDepth 100000 in
theorem rowOf_58_21 (w : World) : Calls Tryz.prog 58 #[.int .i64 22] w fun e w' => e = .returned (.agg #[.int .i64 22, .string ⟨#[75, 71]⟩, .int .i64 1, .bool true, .bool false, .bool false]) ∧ w.grownBy w' none := by
  go_enter Tryz.func58, Tryz.ntmps58
  go_wp2
  exact ⟨rfl, _, res58 (Box.new w 111 #[.int .i64 22, .string ⟨#[75, 71]⟩, .int .i64 1, .bool true, .bool false, .bool false]) _ rfl, rfl, gb_alloc (gb_refl w none) _⟩
set_option maxRecDepth 100000 in
theorem rowOf_58_22 (w : World) : Calls Tryz.prog 58 #[.int .i64 23] w fun e w' => e = .returned (.agg #[.int .i64 23, .string ⟨#[75, 71]⟩, .int .i64 1, .bool true, .bool false, .bool false]) ∧ w.grownBy w' none := by
  go_enter Tryz.func58, Tryz.ntmps58
  go_wp2
  exact ⟨rfl, _, res58 (Box.new w 111 #[.int .i64 23, .string ⟨#[75, 71]⟩, .int .i64 1, .bool true, .bool false, .bool false]) _ rfl, rfl, gb_alloc (gb_refl w none) _⟩
set_option maxRecDepth 100000 in
theorem rowOf_58_23 (w : World) : Calls Tryz.prog 58 #[.int .i64 24] w fun e w' => e = .returned (.agg #[.int .i64 24, .string ⟨#[]⟩, .int .i64 0, .bool false, .bool false, .bool false]) ∧ w.grownBy w' none := by
  go_enter Tryz.func58, Tryz.ntmps58
  go_wp2
  exact ⟨rfl, _, res58 (Box.new w 111 #[.int .i64 24, .string ⟨#[]⟩, .int .i64 0, .bool false, .bool false, .bool false]) _ rfl, rfl, gb_alloc (gb_refl w none) _⟩
theorem rowOf_58 (i : Nat) (hi : i < 24) (w : World) : Calls Tryz.prog 58 #[.int .i64 ((i : Int) + 1)] w fun e w' => e = .returned (.agg (drA i)) ∧ w.grownBy w' none := by
  rcases (by omega : i = 0 ∨ i = 1 ∨ i = 2 ∨ i = 3 ∨ i = 4 ∨ i = 5 ∨ i = 6 ∨ i = 7 ∨ i = 8 ∨ i = 9 ∨ i = 10 ∨ i = 11 ∨ i = 12 ∨ i = 13 ∨ i = 14 ∨ i = 15 ∨ i = 16 ∨ i = 17 ∨ i = 18 ∨ i = 19 ∨ i = 20 ∨ i = 21 ∨ i = 22 ∨ i = 23) with rfl | rfl | rfl | rfl | rfl | rfl | rfl | rfl | rfl | rfl | rfl | rfl | rfl | rfl | rfl | rfl | rfl | rfl | rfl | rfl | rfl | rfl | rfl | rfl
  · exact rowOf_58_0 w
  · exact rowOf_58_1 w
  · exact rowOf_58_2 w
  · exact rowOf_58_3 w
  · exact rowOf_58_4 w
  · exact rowOf_58_5 w
  · exact rowOf_58_6 w
  · exact rowOf_58_7 w
  · exact rowOf_58_8 w
  · exact rowOf_58_9 w
  · exact rowOf_58_10 w
  · exact rowOf_58_11 w
  · exact rowOf_58_12 w
  · exact rowOf_58_13 w
  · exact rowOf_58_14 w
  · exact rowOf_58_15 w
  · exact rowOf_58_16 w
  · exact rowOf_58_17 w
  · exact rowOf_58_18 w
  · exact rowOf_58_19 w
  · exact rowOf_58_20 w
  · exact rowOf_58_21 w
  · exact rowOf_58_22 w
  · exact rowOf_58_23 w
end Go.Proofs.YtobegepebochkaaGreatDoor
namespace Go.Proofs.YtobegepebochkaaGreatDoor
open Go.RowKit
theorem tm_minus (r : Bs) : tm (45 :: r) = (nb 9223372036854775808 r).map (fun n : Nat => -(n : Int)) := by
  simp only [tm, nb, Lib.parseIntB]
  rw [show (45 : UInt8).toNat = 45 from rfl, if_pos (.inr rfl)]
  cases Lib.parseUintB 64 r with
  | ok u =>
    simp only [true_and, not_true, false_and, if_false, if_true, List.head?_cons]
    by_cases h : 9223372036854775808 < u
    · rw [if_pos (show 2 ^ (64 - 1) < u from h), if_neg (by omega)]; rfl
    · rw [if_neg (show ¬ 2 ^ (64 - 1) < u from h), if_pos (show u ≤ 9223372036854775808 by omega)]
      simp
  | _ => rfl
theorem tm_plus (l : Bs) (h : ∀ r, l ≠ 45 :: r) : tm l = (nb 9223372036854775807 l).map (fun n : Nat => (n : Int)) := by
  cases l with
  | nil => rfl
  | cons c r =>
    have hc : c.toNat ≠ 45 := fun e => h r (by rw [show c = 45 from UInt8.toNat_inj.1 e])
    simp only [tm, nb, Lib.parseIntB]
    by_cases hp : c.toNat = 43
    · rw [if_pos (.inl hp)]
      have hcp : c = 43 := UInt8.toNat_inj.1 hp
      have hn : Lib.parseUintB 64 (c :: r) = Lib.parseUintB 64 [] := by
        simp only [Lib.parseUintB, Lib.parseUintM]
        rw [if_neg (by simp), if_neg (by omega), if_pos trivial]
      rw [hn]
      split
      · rename_i v hv
        rw [if_pos (by rw [hcp]; rfl)]; rfl
      · rfl
    · rw [if_neg (by omega)]
      cases Lib.parseUintB 64 (c :: r) with
      | ok u =>
        simp only [hc, not_false_eq_true, true_and, false_and, if_false]
        by_cases h : 9223372036854775808 ≤ u
        · rw [if_pos (show 2 ^ (64 - 1) ≤ u from h), if_neg (by omega)]; rfl
        · rw [if_neg (show ¬ 2 ^ (64 - 1) ≤ u from h), if_pos (show u ≤ 9223372036854775807 by omega)]
          have h43 : ¬ (c :: r).head? = some 43 := by
            simp; intro e; subst e; exact hp rfl
          show (if (c :: r).head? = some 43 then none else some (u : Int)) = _
          rw [if_neg h43]
          rfl
      | _ => rfl
theorem nb_most {most : Nat} {l : Bs} : (nb most l).getD 0 ≤ most := by
  unfold nb
  split
  · split
    · assumption
    · simp
  · simp
set_option maxHeartbeats 2000000 in
theorem timeOf_98 (l : Bs) (hl : l.length ≤ 4611686018427387904) (w : World) :
    Calls Tryz.prog 98 #[sv l] w fun e w' => e = .returned (.tuple #[.int .i64 ((tm l).getD 0), .bool (tm l).isSome]) ∧ w' = w := by
  rcases l with _ | ⟨c, r⟩
  · have h96 : Calls Tryz.prog 96 #[sv [], .int .u64 9223372036854775807] w fun e w' => e = .returned (.tuple #[.int .u64 0, .bool false]) ∧ w' = w := number_96 [] hl 9223372036854775807 9223372036854775807 rfl (by omega) w
    go_enter Tryz.func98, Tryz.ntmps98
    go_wp2_with (go_at_call 96; with_reducible refine h96.mono ?_; rintro e w' ⟨rfl, rfl⟩)
    go_ret2
    exact ⟨rfl, rfl⟩
  · by_cases hc : c = 45
    · subst hc
      have h96 := number_96 r (by simp at hl; omega) 9223372036854775808 9223372036854775808 rfl (by omega) w
      rw [tm_minus]
      have hle := nb_most (most := 9223372036854775808) (l := r)
      obtain ⟨R, hR⟩ : ∃ R, nb 9223372036854775808 r = R := ⟨_, rfl⟩
      rw [hR] at h96 hle ⊢
      have e1 : (R.map fun n : Nat => -(n : Int)).getD 0 = -((R.getD 0 : Nat) : Int) := by cases R <;> simp
      have e2 : (R.map fun n : Nat => -(n : Int)).isSome = R.isSome := by cases R <;> rfl
      rw [e1, e2]
      obtain ⟨z, hz⟩ : ∃ z : Nat, R.getD 0 = z := ⟨_, rfl⟩
      obtain ⟨x, hx⟩ : ∃ x, R.isSome = x := ⟨_, rfl⟩
      rw [hz] at h96 hle ⊢
      rw [hx] at h96 ⊢
      clear hR e1 e2 hz hx
      have hx : (ByteArray.mk (45 :: r).toArray).extract 1 (r.length + 1) = ⟨r.toArray⟩ := by
        apply ByteArray.ext
        simp [ByteArray.data_extract]
      have h97 : Calls Tryz.prog 96 #[.string ((ByteArray.mk (45 :: r).toArray).extract 1 (r.length + 1)), .int .u64 9223372036854775808] w fun e w' => e = .returned (.tuple #[.int .u64 z, .bool x]) ∧ w' = w := by rw [hx]; exact h96
      clear hx h96
      have hg : ∀ h : 0 < (ByteArray.mk ((45 :: r).toArray)).size, (ByteArray.mk ((45 :: r).toArray))[0] = 45 := fun h => rfl
      go_enter Tryz.func98, Tryz.ntmps98
      go_wp2_with (go_at_call 96; with_reducible refine h97.mono ?_; rintro e w' ⟨rfl, rfl⟩)
      have hw : wrap64 (IntKind.u64.wrap (-(z : Int))) = -(z : Int) := by
        have e : IntKind.u64.wrap (-(z : Int)) = (-(z : Int)) % 18446744073709551616 := rfl
        rw [e]
        unfold wrap64
        omega
      go_ret2
      rw [hw]
      exact ⟨rfl, rfl⟩
    · have h96 := number_96 (c :: r) hl 9223372036854775807 9223372036854775807 rfl (by omega) w
      rw [tm_plus _ (fun r' h => hc (by injection h))]
      have hle := nb_most (most := 9223372036854775807) (l := c :: r)
      obtain ⟨R, hR⟩ : ∃ R, nb 9223372036854775807 (c :: r) = R := ⟨_, rfl⟩
      rw [hR] at h96 hle ⊢
      have e1 : (R.map fun n : Nat => (n : Int)).getD 0 = ((R.getD 0 : Nat) : Int) := by cases R <;> simp
      have e2 : (R.map fun n : Nat => (n : Int)).isSome = R.isSome := by cases R <;> rfl
      rw [e1, e2]
      obtain ⟨z, hz⟩ : ∃ z : Nat, R.getD 0 = z := ⟨_, rfl⟩
      obtain ⟨x, hx⟩ : ∃ x, R.isSome = x := ⟨_, rfl⟩
      rw [hz] at h96 hle ⊢
      rw [hx] at h96 ⊢
      clear hR e1 e2 hz hx
      have hg : ∀ h : 0 < (ByteArray.mk ((c :: r).toArray)).size, (ByteArray.mk ((c :: r).toArray))[0] = c := fun h => rfl
      have hc' : ((c.toNat : Int) == 45) = false := beq_eq_false_iff_ne.2 fun e => hc (UInt8.toNat_inj.1 (by show c.toNat = 45; omega))
      go_enter Tryz.func98, Tryz.ntmps98
      go_wp2_with (go_at_call 96; with_reducible refine h96.mono ?_; rintro e w' ⟨rfl, rfl⟩)
      go_ret2
      exact ⟨rfl, rfl⟩
end Go.Proofs.YtobegepebochkaaGreatDoor
namespace Go.Proofs.YtobegepebochkaaGreatDoor
open Go.RowKit Go.Maps
attribute [local go_sem] Oper.semAt_some
abbrev Z41 : Array Value := #[.int .i64 0, .slice none 0 0, .int .u64 0, .int .i64 0, .int .u64 0, .int .u64 0, .slice none 0 0, .bool false, .bool false, .slice none 0 0, .string ⟨#[]⟩]
end Go.Proofs.YtobegepebochkaaGreatDoor
namespace Go.Proofs.YtobegepebochkaaGreatDoor
open Go.RowKit
def bh (v : Int) (f : Fl) : Bool :=
  if f.letter = 79 then plain f.arg && decide (1 ≤ f.arg.length) && decide (f.arg.length ≤ 250) else
  if f.letter = 84 ∨ f.letter = 78 then (tm f.arg).isSome else
  if f.letter = 70 then (nb 4294967295 f.arg).isSome else
  if f.letter = 82 ∨ f.letter = 67 ∨ f.letter = 68 ∨ f.letter = 74 then (nb 18446744073709551615 f.arg).isSome else mode1 v f.arg
theorem mode_one (v : Int) (b : UInt8) : mode1 v [b] = if v = 21 then ([83, 69, 65, 80, 82, 115, 101, 97, 112, 114] : Bs).contains b else ([73, 68, 105, 100] : Bs).contains b := by
  have e : mode1 v [b] = (modes v).contains b := by simp only [mode1]
  rw [e]
  by_cases h : v = 21
  · have e : modes v = [83, 69, 65, 80, 82, 115, 101, 97, 112, 114] := by simp only [modes, h, if_true]
    rw [if_pos h, e]
  · have e : modes v = [73, 68, 105, 100] := by simp only [modes, h, if_false]
    rw [if_neg h, e]
theorem mode_no (v : Int) {l : Bs} (h : l.length ≠ 1) : mode1 v l = false := by
  match l, h with
  | [], _ => simp only [mode1]
  | [x], h => exact absurd rfl h
  | x :: y :: t, _ => simp only [mode1]
set_option maxRecDepth 100000 in
set_option maxHeartbeats 4000000 in
theorem behind_88 (v : Int) (f : Fl) (hl : f.arg.length ≤ 4611686018427387904) (w : World) :
    Calls Tryz.prog 88 #[.int .i64 v, fv f] w fun e w' => e = .returned (.bool (bh v f)) ∧ w.grownBy w' none := by
  obtain ⟨a, l, q⟩ := f
  have h1 := fun w' => timeOf_98 l hl w'
  have h2 := fun w' => number_96 l hl 18446744073709551615 18446744073709551615 rfl (by omega) w'
  have h3 := fun w' => number_96 l hl 4294967295 4294967295 rfl (by omega) w'
  have h4 := fun w' => key_97 l hl w'
  obtain ⟨x1, e1⟩ : ∃ x, (tm l).isSome = x := ⟨_, rfl⟩
  obtain ⟨x2, e2⟩ : ∃ x, (nb 18446744073709551615 l).isSome = x := ⟨_, rfl⟩
  obtain ⟨x3, e3⟩ : ∃ x, (nb 4294967295 l).isSome = x := ⟨_, rfl⟩
  obtain ⟨x4, e4⟩ : ∃ x, (plain l && decide (1 ≤ l.length) && decide (l.length ≤ 250)) = x := ⟨_, rfl⟩
  obtain ⟨y1, f1⟩ : ∃ x : Int, (tm l).getD 0 = x := ⟨_, rfl⟩
  obtain ⟨y2, f2⟩ : ∃ x : Int, ((nb 18446744073709551615 l).getD 0 : Nat) = x := ⟨_, rfl⟩
  obtain ⟨y3, f3⟩ : ∃ x : Int, ((nb 4294967295 l).getD 0 : Nat) = x := ⟨_, rfl⟩
  simp only [e1, e2, e3, e4, f1, f2, f3] at h1 h2 h3 h4
  have HF : Hid (bh v ⟨a, l, q⟩ = if (a.toNat : Int) = 79 then x4 else if (a.toNat : Int) = 84 ∨ (a.toNat : Int) = 78 then x1 else
      if (a.toNat : Int) = 70 then x3 else if (a.toNat : Int) = 82 ∨ (a.toNat : Int) = 67 ∨ (a.toNat : Int) = 68 ∨ (a.toNat : Int) = 74 then x2 else
      mode1 v l) := by
    show _ = _
    simp only [bh, u8i, UInt8.reduceToNat, e1, e2, e3, e4]
    rfl
  clear e1 e2 e3 e4 f1 f2 f3
  have hG := gb_alloc (gb_refl w none) (Obj.cells #[Value.int .u8 a.toNat, sv l, Value.bool q] 79)
  have h87 := fun b w' => holds_87 [83, 69, 65, 80, 82, 115, 101, 97, 112, 114] (by simp) b w'
  have h88 := fun b w' => holds_87 [73, 68, 105, 100] (by simp) b w'
  obtain ⟨b, hb⟩ : ∃ b, l.getD 0 0 = b := ⟨_, rfl⟩
  have hg0 : ∀ h : 0 < (ByteArray.mk l.toArray).size, (ByteArray.mk l.toArray)[0] = b := fun h => (ba_get l 0 h).trans hb
  have h87 := h87 b
  have h88 := h88 b
  have HM : Hid (l.length = 1 → mode1 v l = if v = 21 then ([83, 69, 65, 80, 82, 115, 101, 97, 112, 114] : Bs).contains b else ([73, 68, 105, 100] : Bs).contains b) := by
    show _ → _
    intro h
    obtain ⟨c, rfl⟩ := List.length_eq_one_iff.1 h
    obtain rfl : c = b := hb
    exact mode_one v c
  have HN : Hid (l.length ≠ 1 → mode1 v l = false) := fun h => mode_no v h
  clear hb
  obtain ⟨z1, g1⟩ : ∃ x, ([83, 69, 65, 80, 82, 115, 101, 97, 112, 114] : Bs).contains b = x := ⟨_, rfl⟩
  obtain ⟨z2, g2⟩ : ∃ x, ([73, 68, 105, 100] : Bs).contains b = x := ⟨_, rfl⟩
  simp only [g1] at h87 HM
  simp only [g2] at h88 HM
  clear g1 g2
  obtain ⟨M, hM⟩ : ∃ x, mode1 v l = x := ⟨_, rfl⟩
  rw [hM] at HF HM HN
  clear hM hl
  go_enter Tryz.func88, Tryz.ntmps88
  go_wp2_with (first | (go_at_call 97; go_must (with_reducible refine (h4 _).mono ?_); rintro e w' ⟨rfl, rfl⟩) | (go_at_call 98; go_must (with_reducible refine (h1 _).mono ?_); rintro e w' ⟨rfl, rfl⟩) | (go_at_call 96; go_must (first | with_reducible refine (h2 _).mono ?_ | with_reducible refine (h3 _).mono ?_); rintro e w' ⟨rfl, rfl⟩) | (go_at_call 87; go_must (first | with_reducible refine (h87 _).mono ?_ | with_reducible refine (h88 _).mono ?_); rintro e w' ⟨rfl, rfl⟩))
  all_goals clear h1 h2 h3 h4 h87 h88 hg0
  all_goals (try simp only [beq_iff_eq, beq_eq_false_iff_ne, bne_iff_ne, bne_eq_false_iff_eq, ne_eq] at *)
  all_goals try (exfalso; omega)
  all_goals
    go_ret
    refine ⟨congrArg (fun b => Ending.returned (Value.bool b)) (Eq.trans ?_ HF.out.symm), hG⟩
    first
      | (simp [*]; done)
      | (rw [HN.out (by omega)]; simp [*]; done)
      | (rw [HM.out (by omega)]; simp [*]; done)
end Go.Proofs.YtobegepebochkaaGreatDoor
