import Derived.Test.YtobegepebochkaaGreatDoorRPbb
import Derived.Test.YtobegepebochkaaGreatDoorRH
import Derived.Test.YtobegepebochkaaGreatDoorRPba
set_option linter.unusedVariables false
set_option linter.unusedSimpArgs false
set_option maxRecDepth 100000
set_option maxHeartbeats 16000000
namespace Go.Proofs.YtobegepebochkaaGreatDoor
open Go.RowKit Go.Maps
attribute [local go_sem] Oper.semAt_some
structure Dr where
  shape : Bs
  least : Nat
  again : Bool
  reply : Bool
  block : Bool
def drL : List Dr := [⟨[75], 1, true, false, false⟩, ⟨[75], 1, true, false, false⟩, ⟨[84, 75], 2, true, false, false⟩, ⟨[84, 75], 2, true, false, false⟩, ⟨[75, 70, 84, 78], 4, false, true, true⟩, ⟨[75, 70, 84, 78], 4, false, true, true⟩, ⟨[75, 70, 84, 78], 4, false, true, true⟩, ⟨[75, 70, 84, 78], 4, false, true, true⟩, ⟨[75, 70, 84, 78], 4, false, true, true⟩, ⟨[75, 70, 84, 78, 67], 5, false, true, true⟩, ⟨[75, 90], 1, false, true, false⟩, ⟨[75, 68], 2, false, true, false⟩, ⟨[75, 68], 2, false, true, false⟩, ⟨[75, 84], 2, false, true, false⟩, ⟨[83], 0, false, true, false⟩, ⟨[], 0, false, false, false⟩, ⟨[86], 1, false, true, false⟩, ⟨[], 0, false, false, false⟩, ⟨[87], 0, false, false, false⟩, ⟨[75, 71], 1, true, false, false⟩, ⟨[75, 78, 71], 2, true, false, true⟩, ⟨[75, 71], 1, true, false, false⟩, ⟨[75, 71], 1, true, false, false⟩, ⟨[], 0, false, false, false⟩]
def dr (i : Nat) : Dr := drL.getD i ⟨[], 0, false, false, false⟩
abbrev drA (i : Nat) : Array Value := #[.int .i64 ((i : Int) + 1), sv (dr i).shape, .int .i64 ((dr i).least : Nat), .bool (dr i).again, .bool (dr i).reply, .bool (dr i).block]
theorem res58 {w : World} {b : Nat} {c0 c1 c2 c3 c4 c5 : Value} (h : Box w 111 b #[c0, c1, c2, c3, c4, c5]) (tmps : Array Value) (h2 : tmps[2]?.getD undef = .pointer (some ⟨b, 0, none⟩)) : (results Tryz.f58 tmps).run Tryz.prog w = .ok (.agg #[c0, c1, c2, c3, c4, c5]) w := by
  have hr : Tryz.f58.results = #[.cell 2 111] := rfl
  have p0 := h.cell 0
  have p1 := h.cell 1
  have p2 := h.cell 2
  have p3 := h.cell 3
  have p4 := h.cell 4
  have p5 := h.cell 5
  simp at p0 p1 p2 p3 p4 p5
  unfold results
  simp [hr, h2, go_sem, p0, p1, p2, p3, p4, p5]
theorem res55 {w : World} {b1 b3 : Nat} {c0 c1 c2 c3 c4 c5 c6 c7 c8 c9 c10 d e0 e1 e2 : Value} (h : Box w 41 b1 #[c0, c1, c2, c3, c4, c5, c6, c7, c8, c9, c10]) (k : Box w 43 b3 #[e0, e1, e2]) (tmps : Array Value) (h2 : tmps[4]?.getD undef = .pointer (some ⟨b1, 0, none⟩)) (h3 : tmps[5]?.getD undef = d) (h4 : tmps[6]?.getD undef = .pointer (some ⟨b3, 0, none⟩)) : (results Tryz.f55 tmps).run Tryz.prog w = .ok (.tuple #[.agg #[c0, c1, c2, c3, c4, c5, c6, c7, c8, c9, c10], d, .agg #[e0, e1, e2]]) w := by
  have hr : Tryz.f55.results = #[.cell 4 41, .tmp 5, .cell 6 43] := rfl
  have p0 := h.cell 0
  have p1 := h.cell 1
  have p2 := h.cell 2
  have p3 := h.cell 3
  have p4 := h.cell 4
  have p5 := h.cell 5
  have p6 := h.cell 6
  have p7 := h.cell 7
  have p8 := h.cell 8
  have p9 := h.cell 9
  have p10 := h.cell 10
  simp at p0 p1 p2 p3 p4 p5 p6 p7 p8 p9 p10
  have s0 := k.cell 0
  have s1 := k.cell 1
  have s2 := k.cell 2
  simp at s0 s1 s2
  unfold results
  simp [hr, h2, h3, h4, go_sem, p0, p1, p2, p3, p4, p5, p6, p7, p8, p9, p10, s0, s1, s2]
theorem rowOf_58_0 (w : World) : Calls Tryz.prog 58 #[.int .i64 1] w fun e w' => e = .returned (.agg #[.int .i64 1, .string ⟨#[75]⟩, .int .i64 1, .bool true, .bool false, .bool false]) /\ w.grownBy w' none := by
  go_enter Tryz.func58, Tryz.ntmps58
  go_wp2
  exact ⟨rfl, _, res58 (Box.new w 111 #[.int .i64 1, .string ⟨#[75]⟩, .int .i64 1, .bool true, .bool false, .bool false]) _ rfl, rfl, gb_alloc (gb_refl w none) _⟩
theorem rowOf_58_1 (w : World) : Calls Tryz.prog 58 #[.int .i64 2] w fun e w' => e = .returned (.agg #[.int .i64 2, .string ⟨#[75]⟩, .int .i64 1, .bool true, .bool false, .bool false]) /\ w.grownBy w' none := by
  go_enter Tryz.func58, Tryz.ntmps58
  go_wp2
  exact ⟨rfl, _, res58 (Box.new w 111 #[.int .i64 2, .string ⟨#[75]⟩, .int .i64 1, .bool true, .bool false, .bool false]) _ rfl, rfl, gb_alloc (gb_refl w none) _⟩
theorem rowOf_58_2 (w : World) : Calls Tryz.prog 58 #[.int .i64 3] w fun e w' => e = .returned (.agg #[.int .i64 3, .string ⟨#[84, 75]⟩, .int .i64 2, .bool true, .bool false, .bool false]) /\ w.grownBy w' none := by
  go_enter Tryz.func58, Tryz.ntmps58
  go_wp2
  exact ⟨rfl, _, res58 (Box.new w 111 #[.int .i64 3, .string ⟨#[84, 75]⟩, .int .i64 2, .bool true, .bool false, .bool false]) _ rfl, rfl, gb_alloc (gb_refl w none) _⟩
theorem rowOf_58_3 (w : World) : Calls Tryz.prog 58 #[.int .i64 4] w fun e w' => e = .returned (.agg #[.int .i64 4, .string ⟨#[84, 75]⟩, .int .i64 2, .bool true, .bool false, .bool false]) /\ w.grownBy w' none := by
  go_enter Tryz.func58, Tryz.ntmps58
  go_wp2
  exact ⟨rfl, _, res58 (Box.new w 111 #[.int .i64 4, .string ⟨#[84, 75]⟩, .int .i64 2, .bool true, .bool false, .bool false]) _ rfl, rfl, gb_alloc (gb_refl w none) _⟩
theorem rowOf_58_4 (w : World) : Calls Tryz.prog 58 #[.int .i64 5] w fun e w' => e = .returned (.agg #[.int .i64 5, .string ⟨#[75, 70, 84, 78]⟩, .int .i64 4, .bool false, .bool true, .bool true]) /\ w.grownBy w' none := by
  go_enter Tryz.func58, Tryz.ntmps58
  go_wp2
  exact ⟨rfl, _, res58 (Box.new w 111 #[.int .i64 5, .string ⟨#[75, 70, 84, 78]⟩, .int .i64 4, .bool false, .bool true, .bool true]) _ rfl, rfl, gb_alloc (gb_refl w none) _⟩
theorem rowOf_58_5 (w : World) : Calls Tryz.prog 58 #[.int .i64 6] w fun e w' => e = .returned (.agg #[.int .i64 6, .string ⟨#[75, 70, 84, 78]⟩, .int .i64 4, .bool false, .bool true, .bool true]) /\ w.grownBy w' none := by
  go_enter Tryz.func58, Tryz.ntmps58
  go_wp2
  exact ⟨rfl, _, res58 (Box.new w 111 #[.int .i64 6, .string ⟨#[75, 70, 84, 78]⟩, .int .i64 4, .bool false, .bool true, .bool true]) _ rfl, rfl, gb_alloc (gb_refl w none) _⟩
theorem rowOf_58_6 (w : World) : Calls Tryz.prog 58 #[.int .i64 7] w fun e w' => e = .returned (.agg #[.int .i64 7, .string ⟨#[75, 70, 84, 78]⟩, .int .i64 4, .bool false, .bool true, .bool true]) /\ w.grownBy w' none := by
  go_enter Tryz.func58, Tryz.ntmps58
  go_wp2
  exact ⟨rfl, _, res58 (Box.new w 111 #[.int .i64 7, .string ⟨#[75, 70, 84, 78]⟩, .int .i64 4, .bool false, .bool true, .bool true]) _ rfl, rfl, gb_alloc (gb_refl w none) _⟩
theorem rowOf_58_7 (w : World) : Calls Tryz.prog 58 #[.int .i64 8] w fun e w' => e = .returned (.agg #[.int .i64 8, .string ⟨#[75, 70, 84, 78]⟩, .int .i64 4, .bool false, .bool true, .bool true]) /\ w.grownBy w' none := by
  go_enter Tryz.func58, Tryz.ntmps58
  go_wp2
  exact ⟨rfl, _, res58 (Box.new w 111 #[.int .i64 8, .string ⟨#[75, 70, 84, 78]⟩, .int .i64 4, .bool false, .bool true, .bool true]) _ rfl, rfl, gb_alloc (gb_refl w none) _⟩
theorem rowOf_58_8 (w : World) : Calls Tryz.prog 58 #[.int .i64 9] w fun e w' => e = .returned (.agg #[.int .i64 9, .string ⟨#[75, 70, 84, 78]⟩, .int .i64 4, .bool false, .bool true, .bool true]) /\ w.grownBy w' none := by
  go_enter Tryz.func58, Tryz.ntmps58
  go_wp2
  exact ⟨rfl, _, res58 (Box.new w 111 #[.int .i64 9, .string ⟨#[75, 70, 84, 78]⟩, .int .i64 4, .bool false, .bool true, .bool true]) _ rfl, rfl, gb_alloc (gb_refl w none) _⟩
theorem rowOf_58_9 (w : World) : Calls Tryz.prog 58 #[.int .i64 10] w fun e w' => e = .returned (.agg #[.int .i64 10, .string ⟨#[75, 70, 84, 78, 67]⟩, .int .i64 5, .bool false, .bool true, .bool true]) /\ w.grownBy w' none := by
  go_enter Tryz.func58, Tryz.ntmps58
  go_wp2
  exact ⟨rfl, _, res58 (Box.new w 111 #[.int .i64 10, .string ⟨#[75, 70, 84, 78, 67]⟩, .int .i64 5, .bool false, .bool true, .bool true]) _ rfl, rfl, gb_alloc (gb_refl w none) _⟩
theorem rowOf_58_10 (w : World) : Calls Tryz.prog 58 #[.int .i64 11] w fun e w' => e = .returned (.agg #[.int .i64 11, .string ⟨#[75, 90]⟩, .int .i64 1, .bool false, .bool true, .bool false]) /\ w.grownBy w' none := by
  go_enter Tryz.func58, Tryz.ntmps58
  go_wp2
  exact ⟨rfl, _, res58 (Box.new w 111 #[.int .i64 11, .string ⟨#[75, 90]⟩, .int .i64 1, .bool false, .bool true, .bool false]) _ rfl, rfl, gb_alloc (gb_refl w none) _⟩
theorem rowOf_58_11 (w : World) : Calls Tryz.prog 58 #[.int .i64 12] w fun e w' => e = .returned (.agg #[.int .i64 12, .string ⟨#[75, 68]⟩, .int .i64 2, .bool false, .bool true, .bool false]) /\ w.grownBy w' none := by
  go_enter Tryz.func58, Tryz.ntmps58
  go_wp2
  exact ⟨rfl, _, res58 (Box.new w 111 #[.int .i64 12, .string ⟨#[75, 68]⟩, .int .i64 2, .bool false, .bool true, .bool false]) _ rfl, rfl, gb_alloc (gb_refl w none) _⟩
theorem rowOf_58_12 (w : World) : Calls Tryz.prog 58 #[.int .i64 13] w fun e w' => e = .returned (.agg #[.int .i64 13, .string ⟨#[75, 68]⟩, .int .i64 2, .bool false, .bool true, .bool false]) /\ w.grownBy w' none := by
  go_enter Tryz.func58, Tryz.ntmps58
  go_wp2
  exact ⟨rfl, _, res58 (Box.new w 111 #[.int .i64 13, .string ⟨#[75, 68]⟩, .int .i64 2, .bool false, .bool true, .bool false]) _ rfl, rfl, gb_alloc (gb_refl w none) _⟩
theorem rowOf_58_13 (w : World) : Calls Tryz.prog 58 #[.int .i64 14] w fun e w' => e = .returned (.agg #[.int .i64 14, .string ⟨#[75, 84]⟩, .int .i64 2, .bool false, .bool true, .bool false]) /\ w.grownBy w' none := by
  go_enter Tryz.func58, Tryz.ntmps58
  go_wp2
  exact ⟨rfl, _, res58 (Box.new w 111 #[.int .i64 14, .string ⟨#[75, 84]⟩, .int .i64 2, .bool false, .bool true, .bool false]) _ rfl, rfl, gb_alloc (gb_refl w none) _⟩
theorem rowOf_58_14 (w : World) : Calls Tryz.prog 58 #[.int .i64 15] w fun e w' => e = .returned (.agg #[.int .i64 15, .string ⟨#[83]⟩, .int .i64 0, .bool false, .bool true, .bool false]) /\ w.grownBy w' none := by
  go_enter Tryz.func58, Tryz.ntmps58
  go_wp2
  exact ⟨rfl, _, res58 (Box.new w 111 #[.int .i64 15, .string ⟨#[83]⟩, .int .i64 0, .bool false, .bool true, .bool false]) _ rfl, rfl, gb_alloc (gb_refl w none) _⟩
theorem rowOf_58_15 (w : World) : Calls Tryz.prog 58 #[.int .i64 16] w fun e w' => e = .returned (.agg #[.int .i64 16, .string ⟨#[]⟩, .int .i64 0, .bool false, .bool false, .bool false]) /\ w.grownBy w' none := by
  go_enter Tryz.func58, Tryz.ntmps58
  go_wp2
  exact ⟨rfl, _, res58 (Box.new w 111 #[.int .i64 16, .string ⟨#[]⟩, .int .i64 0, .bool false, .bool false, .bool false]) _ rfl, rfl, gb_alloc (gb_refl w none) _⟩
theorem rowOf_58_16 (w : World) : Calls Tryz.prog 58 #[.int .i64 17] w fun e w' => e = .returned (.agg #[.int .i64 17, .string ⟨#[86]⟩, .int .i64 1, .bool false, .bool true, .bool false]) /\ w.grownBy w' none := by
  go_enter Tryz.func58, Tryz.ntmps58
  go_wp2
  exact ⟨rfl, _, res58 (Box.new w 111 #[.int .i64 17, .string ⟨#[86]⟩, .int .i64 1, .bool false, .bool true, .bool false]) _ rfl, rfl, gb_alloc (gb_refl w none) _⟩
theorem rowOf_58_17 (w : World) : Calls Tryz.prog 58 #[.int .i64 18] w fun e w' => e = .returned (.agg #[.int .i64 18, .string ⟨#[]⟩, .int .i64 0, .bool false, .bool false, .bool false]) /\ w.grownBy w' none := by
  go_enter Tryz.func58, Tryz.ntmps58
  go_wp2
  exact ⟨rfl, _, res58 (Box.new w 111 #[.int .i64 18, .string ⟨#[]⟩, .int .i64 0, .bool false, .bool false, .bool false]) _ rfl, rfl, gb_alloc (gb_refl w none) _⟩
theorem rowOf_58_18 (w : World) : Calls Tryz.prog 58 #[.int .i64 19] w fun e w' => e = .returned (.agg #[.int .i64 19, .string ⟨#[87]⟩, .int .i64 0, .bool false, .bool false, .bool false]) /\ w.grownBy w' none := by
  go_enter Tryz.func58, Tryz.ntmps58
  go_wp2
  exact ⟨rfl, _, res58 (Box.new w 111 #[.int .i64 19, .string ⟨#[87]⟩, .int .i64 0, .bool false, .bool false, .bool false]) _ rfl, rfl, gb_alloc (gb_refl w none) _⟩
theorem rowOf_58_19 (w : World) : Calls Tryz.prog 58 #[.int .i64 20] w fun e w' => e = .returned (.agg #[.int .i64 20, .string ⟨#[75, 71]⟩, .int .i64 1, .bool true, .bool false, .bool false]) /\ w.grownBy w' none := by
  go_enter Tryz.func58, Tryz.ntmps58
  go_wp2
  exact ⟨rfl, _, res58 (Box.new w 111 #[.int .i64 20, .string ⟨#[75, 71]⟩, .int .i64 1, .bool true, .bool false, .bool false]) _ rfl, rfl, gb_alloc (gb_refl w none) _⟩
theorem rowOf_58_20 (w : World) : Calls Tryz.prog 58 #[.int .i64 21] w fun e w' => e = .returned (.agg #[.int .i64 21, .string ⟨#[75, 78, 71]⟩, .int .i64 2, .bool true, .bool false, .bool true]) /\ w.grownBy w' none := by
  go_enter Tryz.func58, Tryz.ntmps58
  go_wp2
  exact ⟨rfl, _, res58 (Box.new w 111 #[.int .i64 21, .string ⟨#[75, 78, 71]⟩, .int .i64 2, .bool true, .bool false, .bool true]) _ rfl, rfl, gb_alloc (gb_refl w none) _⟩
theorem rowOf_58_21 (w : World) : Calls Tryz.prog 58 #[.int .i64 22] w fun e w' => e = .returned (.agg #[.int .i64 22, .string ⟨#[75, 71]⟩, .int .i64 1, .bool true, .bool false, .bool false]) /\ w.grownBy w' none := by
  go_enter Tryz.func58, Tryz.ntmps58
  go_wp2
  exact ⟨rfl, _, res58 (Box.new w 111 #[.int .i64 22, .string ⟨#[75, 71]⟩, .int .i64 1, .bool true, .bool false, .bool false]) _ rfl, rfl, gb_alloc (gb_refl w none) _⟩
theorem rowOf_58_22 (w : World) : Calls Tryz.prog 58 #[.int .i64 23] w fun e w' => e = .returned (.agg #[.int .i64 23, .string ⟨#[75, 71]⟩, .int .i64 1, .bool true, .bool false, .bool false]) /\ w.grownBy w' none := by
  go_enter Tryz.func58, Tryz.ntmps58
  go_wp2
  exact ⟨rfl, _, res58 (Box.new w 111 #[.int .i64 23, .string ⟨#[75, 71]⟩, .int .i64 1, .bool true, .bool false, .bool false]) _ rfl, rfl, gb_alloc (gb_refl w none) _⟩
theorem rowOf_58_23 (w : World) : Calls Tryz.prog 58 #[.int .i64 24] w fun e w' => e = .returned (.agg #[.int .i64 24, .string ⟨#[]⟩, .int .i64 0, .bool false, .bool false, .bool false]) /\ w.grownBy w' none := by
  go_enter Tryz.func58, Tryz.ntmps58
  go_wp2
  exact ⟨rfl, _, res58 (Box.new w 111 #[.int .i64 24, .string ⟨#[]⟩, .int .i64 0, .bool false, .bool false, .bool false]) _ rfl, rfl, gb_alloc (gb_refl w none) _⟩
theorem rowOf_58 (i : Nat) (hi : i < 24) (w : World) : Calls Tryz.prog 58 #[.int .i64 ((i : Int) + 1)] w fun e w' => e = .returned (.agg (drA i)) /\ w.grownBy w' none := by
  rcases (by omega : i = 0 \/ i = 1 \/ i = 2 \/ i = 3 \/ i = 4 \/ i = 5 \/ i = 6 \/ i = 7 \/ i = 8 \/ i = 9 \/ i = 10 \/ i = 11 \/ i = 12 \/ i = 13 \/ i = 14 \/ i = 15 \/ i = 16 \/ i = 17 \/ i = 18 \/ i = 19 \/ i = 20 \/ i = 21 \/ i = 22 \/ i = 23) with rfl | rfl | rfl | rfl | rfl | rfl | rfl | rfl | rfl | rfl | rfl | rfl | rfl | rfl | rfl | rfl | rfl | rfl | rfl | rfl | rfl | rfl | rfl | rfl
  . exact rowOf_58_0 w
  . exact rowOf_58_1 w
  . exact rowOf_58_2 w
  . exact rowOf_58_3 w
  . exact rowOf_58_4 w
  . exact rowOf_58_5 w
  . exact rowOf_58_6 w
  . exact rowOf_58_7 w
  . exact rowOf_58_8 w
  . exact rowOf_58_9 w
  . exact rowOf_58_10 w
  . exact rowOf_58_11 w
  . exact rowOf_58_12 w
  . exact rowOf_58_13 w
  . exact rowOf_58_14 w
  . exact rowOf_58_15 w
  . exact rowOf_58_16 w
  . exact rowOf_58_17 w
  . exact rowOf_58_18 w
  . exact rowOf_58_19 w
  . exact rowOf_58_20 w
  . exact rowOf_58_21 w
  . exact rowOf_58_22 w
  . exact rowOf_58_23 w
end Go.Proofs.YtobegepebochkaaGreatDoor
namespace Go.Proofs.YtobegepebochkaaGreatDoor
open Go.RowKit
theorem tm_minus (r : Bs) : tm (45 :: r) = (nb 9223372036854775808 r).map (fun n : Nat => -(n : Int)) := by
  simp only [tm, nb, Lib.parseIntB]
  rw [show (45 : UInt8).toNat = 45 from rfl, if_pos (.inr rfl)]
  cases Lib.parseUintB 64 r with
  | ok u =>
    simp only [true_and, not_true, false_and, if_false, if_true, List.head?_cons]
    by_cases h : 9223372036854775808 < u
    . rw [if_pos (show 2 ^ (64 - 1) < u from h), if_neg (by omega)]; rfl
    . rw [if_neg (show ¬ 2 ^ (64 - 1) < u from h), if_pos (show u <= 9223372036854775808 by omega)]
      simp
  | _ => rfl
theorem tm_plus (l : Bs) (h : ∀ r, l ≠ 45 :: r) : tm l = (nb 9223372036854775807 l).map (fun n : Nat => (n : Int)) := by
  cases l with
  | nil => rfl
  | cons c r =>
    have hc : c.toNat ≠ 45 := fun e => h r (by rw [show c = 45 from UInt8.toNat_inj.1 e])
    simp only [tm, nb, Lib.parseIntB]
    by_cases hp : c.toNat = 43
    . rw [if_pos (.inl hp)]
      have hcp : c = 43 := UInt8.toNat_inj.1 hp
      have hn : Lib.parseUintB 64 (c :: r) = Lib.parseUintB 64 [] := by
        simp only [Lib.parseUintB, Lib.parseUintM]
        rw [if_neg (by simp), if_neg (by omega), if_pos trivial]
      rw [hn]
      split
      . rename_i v hv
        rw [if_pos (by rw [hcp]; rfl)]; rfl
      . rfl
    . rw [if_neg (by omega)]
      cases Lib.parseUintB 64 (c :: r) with
      | ok u =>
        simp only [hc, not_false_eq_true, true_and, false_and, if_false]
        by_cases h : 9223372036854775808 <= u
        . rw [if_pos (show 2 ^ (64 - 1) <= u from h), if_neg (by omega)]; rfl
        . rw [if_neg (show ¬ 2 ^ (64 - 1) <= u from h), if_pos (show u <= 9223372036854775807 by omega)]
          have h43 : ¬ (c :: r).head? = some 43 := by
            simp; intro e; subst e; exact hp rfl
          show (if (c :: r).head? = some 43 then none else some (u : Int)) = _
          rw [if_neg h43]
          rfl
      | _ => rfl
theorem nb_most {most : Nat} {l : Bs} : (nb most l).getD 0 <= most := by
  unfold nb
  split
  . split
    . assumption
    . simp
  . simp
theorem timeOf_98 (l : Bs) (hl : l.length <= 4611686018427387904) (w : World) :
    Calls Tryz.prog 98 #[sv l] w fun e w' => e = .returned (.tuple #[.int .i64 ((tm l).getD 0), .bool (tm l).isSome]) /\ w' = w := by
  rcases l with _ | ⟨c, r⟩
  . have h96 : Calls Tryz.prog 96 #[sv [], .int .u64 9223372036854775807] w fun e w' => e = .returned (.tuple #[.int .u64 0, .bool false]) /\ w' = w := number_96 [] hl 9223372036854775807 9223372036854775807 rfl (by omega) w
    go_enter Tryz.func98, Tryz.ntmps98
    go_wp2_with (go_at_call 96; with_reducible refine h96.mono ?_; rintro e w' ⟨rfl, rfl⟩)
    go_ret2
    exact ⟨rfl, rfl⟩
  . by_cases hc : c = 45
    . subst hc
      have h96 := number_96 r (by simp at hl; omega) 9223372036854775808 9223372036854775808 rfl (by omega) w
      rw [tm_minus]
      have hle := nb_most (most := 9223372036854775808) (l := r)
      obtain ⟨R, hR⟩ : ∃ R, nb 9223372036854775808 r = R := ⟨_, rfl⟩
      rw [hR] at h96 hle ⊢
      have e1 : (R.map fun n : Nat => -(n : Int)).getD 0 = -((R.getD 0 : Nat) : Int) := by cases R <;> simp
      have e2 : (R.map fun n : Nat => -(n : Int)).isSome = R.isSome := by cases R <;> rfl
      rw [e1, e2]
      obtain ⟨z, hz⟩ : ∃ z : Nat, R.getD 0 = z := ⟨_, rfl⟩
      obtain ⟨x, hx⟩ : ∃ x, R.isSome = x := ⟨_, rfl⟩
      rw [hz] at h96 hle ⊢
      rw [hx] at h96 ⊢
      clear hR e1 e2 hz hx
      have hx : (ByteArray.mk (45 :: r).toArray).extract 1 (r.length + 1) = ⟨r.toArray⟩ := by
        apply ByteArray.ext
        simp [ByteArray.data_extract]
      have h97 : Calls Tryz.prog 96 #[.string ((ByteArray.mk (45 :: r).toArray).extract 1 (r.length + 1)), .int .u64 9223372036854775808] w fun e w' => e = .returned (.tuple #[.int .u64 z, .bool x]) /\ w' = w := by rw [hx]; exact h96
      clear hx h96
      have hg : ∀ h : 0 < (ByteArray.mk ((45 :: r).toArray)).size, (ByteArray.mk ((45 :: r).toArray))[0] = 45 := fun h => rfl
      go_enter Tryz.func98, Tryz.ntmps98
      go_wp2_with (go_at_call 96; with_reducible refine h97.mono ?_; rintro e w' ⟨rfl, rfl⟩)
      have hw : wrap64 (IntKind.u64.wrap (-(z : Int))) = -(z : Int) := by
        have e : IntKind.u64.wrap (-(z : Int)) = (-(z : Int)) % 18446744073709551616 := rfl
        rw [e]
        unfold wrap64
        omega
      go_ret2
      rw [hw]
      exact ⟨rfl, rfl⟩
    . have h96 := number_96 (c :: r) hl 9223372036854775807 9223372036854775807 rfl (by omega) w
      rw [tm_plus _ (fun r' h => hc (by injection h))]
      have hle := nb_most (most := 9223372036854775807) (l := c :: r)
      obtain ⟨R, hR⟩ : ∃ R, nb 9223372036854775807 (c :: r) = R := ⟨_, rfl⟩
      rw [hR] at h96 hle ⊢
      have e1 : (R.map fun n : Nat => (n : Int)).getD 0 = ((R.getD 0 : Nat) : Int) := by cases R <;> simp
      have e2 : (R.map fun n : Nat => (n : Int)).isSome = R.isSome := by cases R <;> rfl
      rw [e1, e2]
      obtain ⟨z, hz⟩ : ∃ z : Nat, R.getD 0 = z := ⟨_, rfl⟩
      obtain ⟨x, hx⟩ : ∃ x, R.isSome = x := ⟨_, rfl⟩
      rw [hz] at h96 hle ⊢
      rw [hx] at h96 ⊢
      clear hR e1 e2 hz hx
      have hg : ∀ h : 0 < (ByteArray.mk ((c :: r).toArray)).size, (ByteArray.mk ((c :: r).toArray))[0] = c := fun h => rfl
      have hc' : ((c.toNat : Int) == 45) = false := beq_eq_false_iff_ne.2 fun e => hc (UInt8.toNat_inj.1 (by show c.toNat = 45; omega))
      go_enter Tryz.func98, Tryz.ntmps98
      go_wp2_with (go_at_call 96; with_reducible refine h96.mono ?_; rintro e w' ⟨rfl, rfl⟩)
      go_ret2
      exact ⟨rfl, rfl⟩
end Go.Proofs.YtobegepebochkaaGreatDoor
namespace Go.Proofs.YtobegepebochkaaGreatDoor
open Go.RowKit Go.Maps
attribute [local go_sem] Oper.semAt_some
abbrev Z41 : Array Value := #[.int .i64 0, .slice none 0 0, .int .u64 0, .int .i64 0, .int .u64 0, .int .u64 0, .slice none 0 0, .bool false, .bool false, .slice none 0 0, .string ⟨#[]⟩]
theorem wrong_55 (s : Bs) (p : Int) (w : World) : Calls Tryz.prog 55 #[sv s, .int .i64 p] w fun e w' => e = .returned (.tuple #[.agg #[.int .i64 0, .slice none 0 0, .int .u64 0, .int .i64 0, .int .u64 0, .int .u64 0, .slice none 0 0, .bool false, .bool false, .slice none 0 0, .string ⟨#[]⟩], .int .i64 (-1), .agg #[.int .i64 2, sv s, .int .i64 p]]) /\ w.grownBy w' none := by
  have b1 := Box.kept (Box.new w 41 #[.int .i64 0, .slice none 0 0, .int .u64 0, .int .i64 0, .int .u64 0, .int .u64 0, .slice none 0 0, .bool false, .bool false, .slice none 0 0, .string ⟨#[]⟩]) (World.grownBy_alloc _ (.cells #[.int .i64 2, sv s, .int .i64 p] 43) none) (by simp)
  have b2 := Box.new (w.alloc (.cells #[.int .i64 0, .slice none 0 0, .int .u64 0, .int .i64 0, .int .u64 0, .int .u64 0, .slice none 0 0, .bool false, .bool false, .slice none 0 0, .string ⟨#[]⟩] 41)) 43 #[.int .i64 2, sv s, .int .i64 p]
  rw [show (w.alloc (.cells #[.int .i64 0, .slice none 0 0, .int .u64 0, .int .i64 0, .int .u64 0, .int .u64 0, .slice none 0 0, .bool false, .bool false, .slice none 0 0, .string ⟨#[]⟩] 41)).heap.size = w.heap.size + 1 by simp] at b2
  go_enter Tryz.func55, Tryz.ntmps55
  go_wp2
  exact ⟨rfl, _, res55 b1 b2 _ rfl rfl rfl, rfl, gb_alloc (gb_alloc (gb_refl w none) _) _⟩
def rpass : Bs -> List Bs -> Int
  | a :: sh, x :: ws => if a = 78 then (match nb 2147483647 x with | some n => (n : Int) | none => rpass sh ws) else rpass sh ws
  | _, _ => -1
theorem rpass_nil (sh : Bs) : rpass sh [] = -1 := by cases sh <;> rfl
theorem ws_at {w : World} {v : Value} {ws : List Bs} (h : Ws w v ws) : ∃ a c, v = .slice a ws.length c /\ ∀ i x, ws[i]? = some x -> ∃ g o, a = some ⟨g, o, none⟩ /\ w.cell? ⟨g, o + i, none⟩ = some (sv x) := by
  rcases h with ⟨rfl, a, c, rfl⟩ | ⟨g, o, c, rfl, _, _, h⟩
  . exact ⟨a, c, rfl, fun i x hi => by cases hi⟩
  . exact ⟨_, c, rfl, fun i x hi => ⟨g, o, rfl, h i x hi⟩⟩
theorem passOf_59 (c0 c2 c3 c4 c5 : Value) (sh : Bs) (hsh : sh.length <= 100) (wv : Value) (ws : List Bs) (hwl : ws.length <= 65537) (hxl : ∀ x ∈ ws, x.length <= 65536) (w : World) (hv : Ws w wv ws) :
    Calls Tryz.prog 59 #[.agg #[c0, sv sh, c2, c3, c4, c5], wv] w fun e w' => e = .returned (.int .i64 (rpass sh ws)) /\ w.grownBy w' none := by
  obtain ⟨a, c, rfl, hat⟩ := ws_at hv
  clear hv
  obtain ⟨R, hR⟩ : ∃ R, rpass sh ws = R := ⟨_, rfl⟩
  rw [hR]
  have hss : (ByteArray.mk sh.toArray).size = sh.length := ba_size sh
  have b0 := Box.new w 111 #[c0, sv sh, c2, c3, c4, c5]
  have g0 := gb_alloc (gb_refl w none) (.cells #[c0, sv sh, c2, c3, c4, c5] 111)
  have c1 : (w.alloc (.cells #[c0, sv sh, c2, c3, c4, c5] 111)).cell? ⟨w.heap.size, 1, none⟩ = some (sv sh) := b0.cell 1
  obtain ⟨W, hW⟩ : ∃ W, w.alloc (.cells #[c0, sv sh, c2, c3, c4, c5] 111) = W := ⟨_, rfl⟩
  rw [hW] at c1 g0
  obtain ⟨n, hn⟩ : ∃ n, n = ws.length := ⟨_, rfl⟩
  rw [<- hn] at hwl ⊢
  have hn1 : n <= ws.length := by omega
  have hn2 : ws.length <= n := by omega
  clear hn b0
  go_enter Tryz.func59, Tryz.ntmps59
  go_upto_region 1 with (fail)
  clear hW
  have hR0 : rpass (sh.drop 0) (ws.drop 0) = R := hR
  clear hR
  go_wp2
  go_loopw [5] (fun v wr => ∃ k : Nat, v = .int .i64 k /\ k <= sh.length /\ k <= n /\ wr = W /\ rpass (sh.drop k) (ws.drop k) = R) (fun v _ => sh.length - (intOf v).toNat)
  case atStart => exact ⟨0, rfl, by omega, by omega, rfl, hR0⟩
  case round =>
    clear hR0
    obtain ⟨k, rfl, hk, hkn, rfl, hr⟩ := hrel
    rcases (by omega : (k < sh.length /\ k < n) \/ k = sh.length \/ (k < sh.length /\ k = n)) with ⟨h1, h2⟩ | h1 | ⟨h1, h2⟩
    . obtain ⟨x, hx⟩ : ∃ x, ws[k]? = some x := ⟨_, List.getElem?_eq_getElem (by omega)⟩
      obtain ⟨g, o, rfl, hc⟩ := hat k x hx
      have hxm := hxl x (List.mem_of_getElem? hx)
      replace hc := gb_cellN g0 hc
      obtain ⟨b, hb⟩ : ∃ b, sh.getD k 0 = b := ⟨_, rfl⟩
      have hgt : ∀ h : k < (ByteArray.mk sh.toArray).size, (ByteArray.mk sh.toArray)[k] = b := fun h => (ba_get sh k h).trans hb
      have hds : sh.drop k = b :: sh.drop (k + 1) := by rw [List.drop_eq_getElem_cons h1, <- hb]; simp [List.getD, h1]
      have hdw : ws.drop k = x :: ws.drop (k + 1) := by
        obtain ⟨h3, h4⟩ := List.getElem?_eq_some_iff.1 hx
        rw [List.drop_eq_getElem_cons h3, h4]
      rw [hds, hdw] at hr
      simp only [rpass] at hr
      have d1 : (k : Int) < sh.length := by omega
      have d2 : (k : Int) < n := by omega
      clear hds hdw hat hb hx
      by_cases hb : b = 78
      . subst hb
        rw [if_pos rfl] at hr
        have h96 := number_96 x (by omega) 2147483647 2147483647 rfl (by omega) wr
        cases hnb : nb 2147483647 x with
        | none =>
          rw [hnb] at hr h96
          have h97 : Calls Tryz.prog 96 #[sv x, .int .u64 2147483647] wr fun e w' => e = .returned (.tuple #[.int .u64 0, .bool false]) /\ w' = wr := h96
          clear h96 hnb
          go_wp2_with (go_at_call 96; go_must ((with_reducible refine h97.mono ?_); rintro e w6 ⟨rfl, hw6⟩; have hw7 := hw6.symm; subst hw7))
          exact ⟨⟨k + 1, by go_num, by omega, by omega, trivial, hr⟩, by simp [intOf]; omega⟩
        | some m =>
          rw [hnb] at hr h96
          have hm : m <= 2147483647 := by
            have := nb_most (most := 2147483647) (l := x)
            rw [hnb] at this
            exact this
          have h97 : Calls Tryz.prog 96 #[sv x, .int .u64 2147483647] wr fun e w' => e = .returned (.tuple #[.int .u64 (m : Int), .bool true]) /\ w' = wr := h96
          have hR : R = (m : Int) := hr.symm
          subst hR
          have q1 : IntKind.i64.wrap (m : Int) = m := by rw [IntKind.wrap_i64]; omega
          clear h96 hnb hr
          go_wp2_with (go_at_call 96; go_must ((with_reducible refine h97.mono ?_); rintro e w6 ⟨rfl, hw6⟩; have hw7 := hw6.symm; subst hw7))
          go_ret
          exact ⟨rfl, g0⟩
      . rw [if_neg hb] at hr
        have hbi : ((b.toNat : Int) == 78) = false := by
          have : ¬ b.toNat = 78 := fun h => hb (UInt8.toNat_inj.1 h)
          simp; omega
        have hbj : (b.toNat == 78) = false := by
          have : ¬ b.toNat = 78 := fun h => hb (UInt8.toNat_inj.1 h)
          simpa using this
        go_wp2
        exact ⟨⟨k + 1, by go_num, by omega, by omega, trivial, hr⟩, by simp [intOf]; omega⟩
    . have hR : R = -1 := by rw [<- hr, h1, List.drop_length]; rfl
      subst hR
      have d1 : ¬ ((k : Int) < sh.length) := by omega
      clear hat hr hxl
      go_wp2
      go_ret
      exact ⟨rfl, g0⟩
    . have hR : R = -1 := by rw [<- hr, List.drop_of_length_le (by omega : ws.length <= k), rpass_nil]
      subst hR
      have d1 : (k : Int) < sh.length := by omega
      have d2 : ¬ ((k : Int) < n) := by omega
      clear hat hr hxl
      go_wp2
      go_ret
      exact ⟨rfl, g0⟩
end Go.Proofs.YtobegepebochkaaGreatDoor
