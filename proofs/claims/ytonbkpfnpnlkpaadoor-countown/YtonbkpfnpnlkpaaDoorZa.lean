/-
  A Book of lists of numbers: what is empty in it.
-/
import Derived.Test.YtonbkpfnpnlkpaaDoorP
import Derived.Test.YtonbkpfnpnlkpaaDoorI
import Derived.Below
namespace Go.Proofs.YtonbkpfnpnlkpaaDoor
open Go.RowKit
set_option linter.unusedVariables false
set_option linter.unusedSimpArgs false

def hvals (xs : List Int) : List Value := xs.map fun x => Value.int .i64 x
/-- Numbers at a place. -/
def HsH (w : World) (a : Option Addr) (xs : List Int) : Prop :=
  0 < xs.length → ∃ g o, a = some ⟨g, o, none⟩ ∧ ∀ k, k < xs.length → w.cell? ⟨g, o + k, none⟩ = some (.int .i64 (xs.getD k 0))
theorem HsH.of_row {w : World} {B : Nat} {dv : Value} {xs : List Int} (h : w.ownsRow B 3 1 dv xs.length (xs.map fun x => Value.int .i64 x)) : ∃ a c, dv = .slice a xs.length c ∧ HsH w a xs := by
  obtain ⟨ao, cp, hdv, _, _, _, hpos⟩ := row_shape h
  subst hdv
  refine ⟨ao, cp, rfl, fun h0 => ?_⟩
  obtain ⟨g, rfl⟩ := hpos h0
  refine ⟨g, 0, rfl, fun i hi => ?_⟩
  rw [Nat.zero_add]
  exact row_cell h i _ (by simp [List.getD, hi])
theorem own_lo {w : World} {B : Nat} {e : TypeId} {s : Nat} {v : Value} {n : Nat} {xs : List Value} (h : w.ownsRow B e s v n xs) {j : Nat} (hj : v.ownBlock = some j) : B ≤ j ∧ j < w.heap.size := by
  rcases h.2 with ⟨h1, _⟩ | ⟨g, c, cur, h1, h2, h3, _⟩
  · rw [h1] at hj; simp [Value.ownBlock] at hj
  · rw [h1] at hj; simp [Value.ownBlock] at hj; subst hj; exact ⟨h2, lt_of_block h3⟩
theorem gb_of_kp {w a b : World} {G : Nat → Prop} (h : w.grownBy a none) (k : Kp G a b) (hG : ∀ j, G j → w.heap.size ≤ j) : w.grownBy b none :=
  (((Kp.of (F := fun _ => False) h).trans k (fun _ h => h) (fun j hj => .inr (hG j hj)))).grown (fun _ h => h.elim)
section
variable {w : World} {ops : Array Oper} {rest : List Oper} {o : Oper} {a : Act} {Q : Exit → Act → World → Prop}
theorem push3 (hgd : o.guard = none) (s x : Operand) (ho : o.op = .call { callee := .builtin .append, args := #[s, x], argTypes := #[40, 40] })
    (B : Nat) (v : Value) (n : Nat) (xs : List Value) (hs : a.eval s = v) (hown : w.ownsRow B 3 1 v n xs) (u : Int) (hx : a.eval x = .slice (some ⟨w.heap.size, 0, none⟩) 1 1) (hn : n ≤ 100000000000) (hB : B ≤ w.heap.size)
    (h : ∀ g cap w', w'.ownsRow B 3 1 (.slice (some ⟨g, 0, none⟩) (n + 1) cap) (n + 1) (xs ++ [.int .i64 u]) → w.grownBy w' v.ownBlock → (v.ownBlock = some g ∨ w.heap.size ≤ g) → wpList Tryd.prog ops Q rest (a.put o.dst (.slice (some ⟨g, 0, none⟩) (n + 1) cap)) w') : wpList Tryd.prog ops Q (o :: rest) a (w.alloc (.cells #[.int .i64 u] 3)) := by
  obtain ⟨i0, hi, hz0, hz1, hz2⟩ := info_parts Tryd.info3
  exact wpList_pushN hgd s x 40 ho 3 i0 _ 1 8 Tryd.underlying40 hi hz0 hz1 hz2 rfl (by omega) (by omega) B v n xs hs hown [.int .i64 u] rfl (by simp [Value.oneCell']) hx hn hB h
end
def nilS : Value := .slice none 0 0
/-- A Book with lists of numbers alone. -/
def bkA (hv wv ov mv : Value) (n : Int) : Array Value := #[nilS, nilS, nilS, nilS, hv, wv, ov, mv, nilS, nilS, nilS, nilS, nilS, nilS, nilS, nilS, nilS, nilS, nilS, nilS, nilS, nilS, nilS, nilS, nilS, nilS, .int .i64 n]
section
variable {w : World} {bb : Nat} {hv wv ov mv : Value} {n : Int}
theorem full_47 (h : Box w 72 bb (bkA hv wv ov mv n)) : Calls Tryd.prog 47 #[.pointer (some ⟨bb, 0, none⟩)] w fun y w' => y = .returned (.bool (decide (200000 < n))) ∧ w' = w := by
  have c : w.cell? ⟨bb, 26, none⟩ = some (.int .i64 n) := h.cell 26
  go_enter Tryd.func47, Tryd.ntmps47
  go_wp2
  go_ret
  exact ⟨by simp, rfl⟩
theorem look_75 (w : World) : Calls Tryd.prog 75 #[.pointer (some ⟨bb, 0, none⟩), .slice none 0 0] w fun y w' => y = .returned (.bool true) ∧ w' = w := by
  go_enter Tryd.func75, Tryd.ntmps75
  go_wp2
  go_loopw [5] (fun v wr => v = .int .i64 0 ∧ wr = w) (fun _ _ => 0)
  case atStart => exact ⟨rfl, rfl⟩
  case round =>
    obtain ⟨rfl, rfl⟩ := hrel
    go_wp2
    go_ret
    exact ⟨rfl, rfl⟩
theorem look_79 (w : World) : Calls Tryd.prog 79 #[.pointer (some ⟨bb, 0, none⟩), .slice none 0 0] w fun y w' => y = .returned (.bool true) ∧ w' = w := by
  go_enter Tryd.func79, Tryd.ntmps79
  go_wp2
  go_loopw [5] (fun v wr => v = .int .i64 0 ∧ wr = w) (fun _ _ => 0)
  case atStart => exact ⟨rfl, rfl⟩
  case round =>
    obtain ⟨rfl, rfl⟩ := hrel
    go_wp2
    go_ret
    exact ⟨rfl, rfl⟩
theorem look_78 (w : World) : Calls Tryd.prog 78 #[.pointer (some ⟨bb, 0, none⟩), .slice none 0 0] w fun y w' => y = .returned (.bool true) ∧ w' = w := by
  go_enter Tryd.func78, Tryd.ntmps78
  go_wp2
  go_loopw [5] (fun v wr => v = .int .i64 0 ∧ wr = w) (fun _ _ => 0)
  case atStart => exact ⟨rfl, rfl⟩
  case round =>
    obtain ⟨rfl, rfl⟩ := hrel
    go_wp2
    go_ret
    exact ⟨rfl, rfl⟩
theorem look_80 (w : World) : Calls Tryd.prog 80 #[.pointer (some ⟨bb, 0, none⟩), .slice none 0 0] w fun y w' => y = .returned (.bool true) ∧ w' = w := by
  go_enter Tryd.func80, Tryd.ntmps80
  go_wp2
  go_loopw [5] (fun v wr => v = .int .i64 0 ∧ wr = w) (fun _ _ => 0)
  case atStart => exact ⟨rfl, rfl⟩
  case round =>
    obtain ⟨rfl, rfl⟩ := hrel
    go_wp2
    go_ret
    exact ⟨rfl, rfl⟩
theorem look_81 (w : World) : Calls Tryd.prog 81 #[.pointer (some ⟨bb, 0, none⟩), .slice none 0 0] w fun y w' => y = .returned (.bool true) ∧ w' = w := by
  go_enter Tryd.func81, Tryd.ntmps81
  go_wp2
  go_loopw [5] (fun v wr => v = .int .i64 0 ∧ wr = w) (fun _ _ => 0)
  case atStart => exact ⟨rfl, rfl⟩
  case round =>
    obtain ⟨rfl, rfl⟩ := hrel
    go_wp2
    go_ret
    exact ⟨rfl, rfl⟩
theorem look_82 (w : World) : Calls Tryd.prog 82 #[.pointer (some ⟨bb, 0, none⟩), .slice none 0 0] w fun y w' => y = .returned (.bool true) ∧ w' = w := by
  go_enter Tryd.func82, Tryd.ntmps82
  go_wp2
  go_loopw [5] (fun v wr => v = .int .i64 0 ∧ wr = w) (fun _ _ => 0)
  case atStart => exact ⟨rfl, rfl⟩
  case round =>
    obtain ⟨rfl, rfl⟩ := hrel
    go_wp2
    go_ret
    exact ⟨rfl, rfl⟩
set_option maxRecDepth 100000 in
set_option maxHeartbeats 4000000 in
theorem close_50 (h : Box w 72 bb (bkA hv wv ov mv n)) : Calls Tryd.prog 50 #[.pointer (some ⟨bb, 0, none⟩)] w fun y w' => y = .returned (.bool true) ∧ w' = w := by
  have c0 : w.cell? ⟨bb, 0, none⟩ = some (.slice none 0 0) := h.cell 0
  have c1 : w.cell? ⟨bb, 2, none⟩ = some (.slice none 0 0) := h.cell 2
  have c2 : w.cell? ⟨bb, 3, none⟩ = some (.slice none 0 0) := h.cell 3
  have hl := look_75 (bb := bb) w
  clear h
  go_enter Tryd.func50, Tryd.ntmps50
  go_wp2
  go_loopw [3] (fun v wr => v = .int .i64 0 ∧ wr = w) (fun _ _ => 0)
  case atStart => exact ⟨rfl, rfl⟩
  case round =>
    obtain ⟨rfl, hwr⟩ := hrel
    subst hwr
    go_wp2
    go_loopw [5] (fun v wq => v = .int .i64 0 ∧ wq = wr) (fun _ _ => 0)
    case atStart => exact ⟨rfl, rfl⟩
    case round =>
      obtain ⟨rfl, hwq⟩ := hrel
      subst hwq
      go_wp2_with (first | (go_at_call 75; go_must (refine hl.mono ?_); rintro y w7 ⟨rfl, hw7⟩; subst hw7) | fail)
      go_loopw [8] (fun v wz => v = .int .i64 0 ∧ wz = w7) (fun _ _ => 0)
      case atStart => exact ⟨rfl, rfl⟩
      case round =>
        obtain ⟨rfl, hwz⟩ := hrel
        subst hwz
        go_wp2_with (first | (go_at_call 75; go_must (refine hl.mono ?_); rintro y w7 ⟨rfl, hw7⟩; subst hw7) | fail)
        go_ret
        exact ⟨rfl, rfl⟩
set_option maxRecDepth 100000 in
set_option maxHeartbeats 4000000 in
theorem close_52 (h : Box w 72 bb (bkA hv wv ov mv n)) : Calls Tryd.prog 52 #[.pointer (some ⟨bb, 0, none⟩)] w fun y w' => y = .returned (.bool true) ∧ w' = w := by
  have c0 : w.cell? ⟨bb, 8, none⟩ = some (.slice none 0 0) := h.cell 8
  have c1 : w.cell? ⟨bb, 10, none⟩ = some (.slice none 0 0) := h.cell 10
  have c2 : w.cell? ⟨bb, 11, none⟩ = some (.slice none 0 0) := h.cell 11
  have hl := look_78 (bb := bb) w
  clear h
  go_enter Tryd.func52, Tryd.ntmps52
  go_wp2
  go_loopw [3] (fun v wr => v = .int .i64 0 ∧ wr = w) (fun _ _ => 0)
  case atStart => exact ⟨rfl, rfl⟩
  case round =>
    obtain ⟨rfl, hwr⟩ := hrel
    subst hwr
    go_wp2
    go_loopw [5] (fun v wq => v = .int .i64 0 ∧ wq = wr) (fun _ _ => 0)
    case atStart => exact ⟨rfl, rfl⟩
    case round =>
      obtain ⟨rfl, hwq⟩ := hrel
      subst hwq
      go_wp2_with (first | (go_at_call 78; go_must (refine hl.mono ?_); rintro y w7 ⟨rfl, hw7⟩; subst hw7) | fail)
      go_loopw [8] (fun v wz => v = .int .i64 0 ∧ wz = w7) (fun _ _ => 0)
      case atStart => exact ⟨rfl, rfl⟩
      case round =>
        obtain ⟨rfl, hwz⟩ := hrel
        subst hwz
        go_wp2_with (first | (go_at_call 78; go_must (refine hl.mono ?_); rintro y w7 ⟨rfl, hw7⟩; subst hw7) | fail)
        go_ret
        exact ⟨rfl, rfl⟩
set_option maxRecDepth 100000 in
set_option maxHeartbeats 4000000 in
theorem close_53 (h : Box w 72 bb (bkA hv wv ov mv n)) : Calls Tryd.prog 53 #[.pointer (some ⟨bb, 0, none⟩)] w fun y w' => y = .returned (.bool true) ∧ w' = w := by
  have c0 : w.cell? ⟨bb, 12, none⟩ = some (.slice none 0 0) := h.cell 12
  have c1 : w.cell? ⟨bb, 14, none⟩ = some (.slice none 0 0) := h.cell 14
  have c2 : w.cell? ⟨bb, 15, none⟩ = some (.slice none 0 0) := h.cell 15
  have hl := look_79 (bb := bb) w
  clear h
  go_enter Tryd.func53, Tryd.ntmps53
  go_wp2
  go_loopw [3] (fun v wr => v = .int .i64 0 ∧ wr = w) (fun _ _ => 0)
  case atStart => exact ⟨rfl, rfl⟩
  case round =>
    obtain ⟨rfl, hwr⟩ := hrel
    subst hwr
    go_wp2
    go_loopw [5] (fun v wq => v = .int .i64 0 ∧ wq = wr) (fun _ _ => 0)
    case atStart => exact ⟨rfl, rfl⟩
    case round =>
      obtain ⟨rfl, hwq⟩ := hrel
      subst hwq
      go_wp2_with (first | (go_at_call 79; go_must (refine hl.mono ?_); rintro y w7 ⟨rfl, hw7⟩; subst hw7) | fail)
      go_loopw [8] (fun v wz => v = .int .i64 0 ∧ wz = w7) (fun _ _ => 0)
      case atStart => exact ⟨rfl, rfl⟩
      case round =>
        obtain ⟨rfl, hwz⟩ := hrel
        subst hwz
        go_wp2_with (first | (go_at_call 79; go_must (refine hl.mono ?_); rintro y w7 ⟨rfl, hw7⟩; subst hw7) | fail)
        go_ret
        exact ⟨rfl, rfl⟩
set_option maxRecDepth 100000 in
set_option maxHeartbeats 4000000 in
theorem close_54 (h : Box w 72 bb (bkA hv wv ov mv n)) : Calls Tryd.prog 54 #[.pointer (some ⟨bb, 0, none⟩)] w fun y w' => y = .returned (.bool true) ∧ w' = w := by
  have c0 : w.cell? ⟨bb, 16, none⟩ = some (.slice none 0 0) := h.cell 16
  have c1 : w.cell? ⟨bb, 17, none⟩ = some (.slice none 0 0) := h.cell 17
  have c2 : w.cell? ⟨bb, 18, none⟩ = some (.slice none 0 0) := h.cell 18
  have hl := look_80 (bb := bb) w
  clear h
  go_enter Tryd.func54, Tryd.ntmps54
  go_wp2
  go_loopw [3] (fun v wr => v = .int .i64 0 ∧ wr = w) (fun _ _ => 0)
  case atStart => exact ⟨rfl, rfl⟩
  case round =>
    obtain ⟨rfl, hwr⟩ := hrel
    subst hwr
    go_wp2
    go_loopw [5] (fun v wq => v = .int .i64 0 ∧ wq = wr) (fun _ _ => 0)
    case atStart => exact ⟨rfl, rfl⟩
    case round =>
      obtain ⟨rfl, hwq⟩ := hrel
      subst hwq
      go_wp2_with (first | (go_at_call 80; go_must (refine hl.mono ?_); rintro y w7 ⟨rfl, hw7⟩; subst hw7) | fail)
      go_loopw [8] (fun v wz => v = .int .i64 0 ∧ wz = w7) (fun _ _ => 0)
      case atStart => exact ⟨rfl, rfl⟩
      case round =>
        obtain ⟨rfl, hwz⟩ := hrel
        subst hwz
        go_wp2_with (first | (go_at_call 80; go_must (refine hl.mono ?_); rintro y w7 ⟨rfl, hw7⟩; subst hw7) | fail)
        go_ret
        exact ⟨rfl, rfl⟩
set_option maxRecDepth 100000 in
set_option maxHeartbeats 4000000 in
theorem close_55 (h : Box w 72 bb (bkA hv wv ov mv n)) : Calls Tryd.prog 55 #[.pointer (some ⟨bb, 0, none⟩)] w fun y w' => y = .returned (.bool true) ∧ w' = w := by
  have c0 : w.cell? ⟨bb, 19, none⟩ = some (.slice none 0 0) := h.cell 19
  have c1 : w.cell? ⟨bb, 20, none⟩ = some (.slice none 0 0) := h.cell 20
  have c2 : w.cell? ⟨bb, 21, none⟩ = some (.slice none 0 0) := h.cell 21
  have hl := look_81 (bb := bb) w
  clear h
  go_enter Tryd.func55, Tryd.ntmps55
  go_wp2
  go_loopw [3] (fun v wr => v = .int .i64 0 ∧ wr = w) (fun _ _ => 0)
  case atStart => exact ⟨rfl, rfl⟩
  case round =>
    obtain ⟨rfl, hwr⟩ := hrel
    subst hwr
    go_wp2
    go_loopw [5] (fun v wq => v = .int .i64 0 ∧ wq = wr) (fun _ _ => 0)
    case atStart => exact ⟨rfl, rfl⟩
    case round =>
      obtain ⟨rfl, hwq⟩ := hrel
      subst hwq
      go_wp2_with (first | (go_at_call 81; go_must (refine hl.mono ?_); rintro y w7 ⟨rfl, hw7⟩; subst hw7) | fail)
      go_loopw [8] (fun v wz => v = .int .i64 0 ∧ wz = w7) (fun _ _ => 0)
      case atStart => exact ⟨rfl, rfl⟩
      case round =>
        obtain ⟨rfl, hwz⟩ := hrel
        subst hwz
        go_wp2_with (first | (go_at_call 81; go_must (refine hl.mono ?_); rintro y w7 ⟨rfl, hw7⟩; subst hw7) | fail)
        go_ret
        exact ⟨rfl, rfl⟩
set_option maxRecDepth 100000 in
set_option maxHeartbeats 4000000 in
theorem close_56 (h : Box w 72 bb (bkA hv wv ov mv n)) : Calls Tryd.prog 56 #[.pointer (some ⟨bb, 0, none⟩)] w fun y w' => y = .returned (.bool true) ∧ w' = w := by
  have c0 : w.cell? ⟨bb, 22, none⟩ = some (.slice none 0 0) := h.cell 22
  have c1 : w.cell? ⟨bb, 23, none⟩ = some (.slice none 0 0) := h.cell 23
  have c2 : w.cell? ⟨bb, 24, none⟩ = some (.slice none 0 0) := h.cell 24
  have hl := look_82 (bb := bb) w
  clear h
  go_enter Tryd.func56, Tryd.ntmps56
  go_wp2
  go_loopw [3] (fun v wr => v = .int .i64 0 ∧ wr = w) (fun _ _ => 0)
  case atStart => exact ⟨rfl, rfl⟩
  case round =>
    obtain ⟨rfl, hwr⟩ := hrel
    subst hwr
    go_wp2
    go_loopw [5] (fun v wq => v = .int .i64 0 ∧ wq = wr) (fun _ _ => 0)
    case atStart => exact ⟨rfl, rfl⟩
    case round =>
      obtain ⟨rfl, hwq⟩ := hrel
      subst hwq
      go_wp2_with (first | (go_at_call 82; go_must (refine hl.mono ?_); rintro y w7 ⟨rfl, hw7⟩; subst hw7) | fail)
      go_loopw [8] (fun v wz => v = .int .i64 0 ∧ wz = w7) (fun _ _ => 0)
      case atStart => exact ⟨rfl, rfl⟩
      case round =>
        obtain ⟨rfl, hwz⟩ := hrel
        subst hwz
        go_wp2_with (first | (go_at_call 82; go_must (refine hl.mono ?_); rintro y w7 ⟨rfl, hw7⟩; subst hw7) | fail)
        go_ret
        exact ⟨rfl, rfl⟩
end

end Go.Proofs.YtonbkpfnpnlkpaaDoor
