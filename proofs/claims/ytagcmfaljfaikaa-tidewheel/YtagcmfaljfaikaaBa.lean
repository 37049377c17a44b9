/-
  handles; a Book of lists of handles: what is empty in it.
-/
import Derived.Test.YtagcmfaljfaikaaRc
namespace Go.Proofs.Ytagcmfaljfaikaa
open Go.RowKit
set_option linter.unusedVariables false

def hvals (xs : List Int) : List Value := xs.map fun x => Value.int .u64 x
theorem hvals_map (ds : List En) : (ds.map fun d => Value.int .u64 d.h) = hvals (ds.map En.h) := by unfold hvals; rw [List.map_map]; rfl

set_option maxRecDepth 100000 in
set_option maxHeartbeats 4000000 in
theorem handles_45 {w : World} {B : Nat} {v : Value} {xs : List Int} (h : w.ownsRow B 23 1 v xs.length (hvals xs)) (hl : xs.length < 1000000) :
    Calls Try.prog 45 #[v] w fun y w' => ∃ dv, y = .returned dv ∧ w.grownBy w' none ∧ w'.ownsRow w.heap.size 89 1 dv xs.length (hvals xs) := by
  obtain ⟨ao, cp, hdv, _, _, _, hpos⟩ := row_shape h
  subst hdv
  go_enter Try.func45, Try.ntmps45
  go_wp2
  go_loopw [3, 4] (fun rv v wr => ∃ i : Nat, i ≤ xs.length ∧ v = .int .i64 i ∧ wr.ownsRow w.heap.size 89 1 rv i (hvals (xs.take i)) ∧ w.grownBy wr none) (fun _ v _ => xs.length - (intOf v).toNat)
  case atStart => exact ⟨0, by omega, rfl, ⟨rfl, .inl ⟨rfl, rfl⟩⟩, gb_refl _ _⟩
  case round =>
    obtain ⟨i, hi, rfl, hrow, hg⟩ := hrel
    obtain ⟨ao2, cp2, hdv2, _, _, _, _⟩ := row_shape hrow
    subst hdv2
    by_cases hil : i < xs.length
    · obtain ⟨g, rfl⟩ := hpos (by omega)
      have e0 := gb_cellN hg (row_cell h i (.int .u64 (xs.getD i 0)) (by unfold hvals; simp [List.getD, hil]))
      have hsn : hvals (xs.take i) ++ [.int .u64 (xs.getD i 0)] = hvals (xs.take (i + 1)) := by
        unfold hvals
        rw [List.take_add_one, List.map_append]
        simp [List.getD, hil]
      have HS : Hid (hvals (xs.take i) ++ [.int .u64 (xs.getD i 0)] = hvals (xs.take (i + 1))) := hsn
      have hib : (i : Int) < xs.length := by omega
      have hsz := hg.size
      clear hsn h hpos
      generalize xs.getD i 0 = z at *
      go_wp2_with (at_builtin; go_must (refine push89 rfl _ _ rfl w.heap.size _ i _ (by rfl) hrow z (by rfl) (by omega) hsz ?_))
      intro g4 cap4 w4 hrow4 hgb4 hat4
      have hg4 : w.grownBy w4 none := gb_of_kp hg ((Kp.refl (fun j => (Value.slice ao2 i cp2).ownBlock = some j) wr).step hgb4 (fun j hj => .inl hj)) (fun j hj => (own_lo hrow hj).1)
      rw [HS.out] at hrow4
      clear hgb4 hat4 hrow HS
      go_wp2
      exact ⟨⟨i + 1, by omega, by go_num, hrow4, hg4⟩, by simp [intOf]; omega⟩
    · obtain rfl : i = xs.length := by omega
      rw [List.take_length] at hrow
      have hpost : ∃ dv, Ending.returned (Value.slice ao2 xs.length cp2) = .returned dv ∧ w.grownBy wr none ∧ wr.ownsRow w.heap.size 89 1 dv xs.length (hvals xs) := ⟨_, rfl, hg, hrow⟩
      clear hpos
      go_wp2_with fail
      exact bodyPost_ret (v := .slice ao2 xs.length cp2) (results_tmp Try.results45 _ _ _) rfl hpost

def nilS : Value := .slice none 0 0
/-- A Book with lists of handles alone. -/
def bkA (hv wv ov mv : Value) (n : Int) : Array Value := #[nilS, nilS, nilS, nilS, nilS, nilS, nilS, nilS, nilS, nilS, nilS, nilS, hv, wv, ov, mv, nilS, nilS, nilS, nilS, nilS, nilS, nilS, nilS, nilS, nilS, .int .i64 n]
section
variable {w : World} {bb : Nat} {hv wv ov mv : Value} {n : Int}
theorem bk_nil (h : Box w 57 bb (bkA hv wv ov mv n)) : (∀ i, i < 12 → w.cell? ⟨bb, i, none⟩ = some (.slice none 0 0)) ∧ (∀ i, 16 ≤ i → i < 26 → w.cell? ⟨bb, i, none⟩ = some (.slice none 0 0)) := by
  refine ⟨fun i hi => ?_, fun i h1 h2 => ?_⟩
  · rw [h.cell i]
    rcases (show i = 0 ∨ i = 1 ∨ i = 2 ∨ i = 3 ∨ i = 4 ∨ i = 5 ∨ i = 6 ∨ i = 7 ∨ i = 8 ∨ i = 9 ∨ i = 10 ∨ i = 11 by omega) with rfl | rfl | rfl | rfl | rfl | rfl | rfl | rfl | rfl | rfl | rfl | rfl <;> rfl
  · rw [h.cell i]
    rcases (show i = 16 ∨ i = 17 ∨ i = 18 ∨ i = 19 ∨ i = 20 ∨ i = 21 ∨ i = 22 ∨ i = 23 ∨ i = 24 ∨ i = 25 by omega) with rfl | rfl | rfl | rfl | rfl | rfl | rfl | rfl | rfl | rfl <;> rfl
theorem full_63 (h : Box w 57 bb (bkA hv wv ov mv n)) : Calls Try.prog 63 #[.pointer (some ⟨bb, 0, none⟩)] w fun y w' => y = .returned (.bool (decide (200000 < n))) ∧ w' = w := by
  have c : w.cell? ⟨bb, 26, none⟩ = some (.int .i64 n) := h.cell 26
  go_enter Try.func63, Try.ntmps63
  go_wp2
  go_ret
  exact ⟨by simp, rfl⟩
theorem look_67 (w : World) : Calls Try.prog 67 #[.pointer (some ⟨bb, 0, none⟩), .slice none 0 0] w fun y w' => y = .returned (.bool true) ∧ w' = w := by
  go_enter Try.func67, Try.ntmps67
  go_wp2
  go_loopw [5] (fun v wr => v = .int .i64 0 ∧ wr = w) (fun _ _ => 0)
  case atStart => exact ⟨rfl, rfl⟩
  case round =>
    obtain ⟨rfl, rfl⟩ := hrel
    go_wp2
    go_ret
    exact ⟨rfl, rfl⟩
theorem look_68 (w : World) : Calls Try.prog 68 #[.pointer (some ⟨bb, 0, none⟩), .slice none 0 0] w fun y w' => y = .returned (.bool true) ∧ w' = w := by
  go_enter Try.func68, Try.ntmps68
  go_wp2
  go_loopw [5] (fun v wr => v = .int .i64 0 ∧ wr = w) (fun _ _ => 0)
  case atStart => exact ⟨rfl, rfl⟩
  case round =>
    obtain ⟨rfl, rfl⟩ := hrel
    go_wp2
    go_ret
    exact ⟨rfl, rfl⟩
theorem look_70 (w : World) : Calls Try.prog 70 #[.pointer (some ⟨bb, 0, none⟩), .slice none 0 0] w fun y w' => y = .returned (.bool true) ∧ w' = w := by
  go_enter Try.func70, Try.ntmps70
  go_wp2
  go_loopw [5] (fun v wr => v = .int .i64 0 ∧ wr = w) (fun _ _ => 0)
  case atStart => exact ⟨rfl, rfl⟩
  case round =>
    obtain ⟨rfl, rfl⟩ := hrel
    go_wp2
    go_ret
    exact ⟨rfl, rfl⟩
theorem look_72 (w : World) : Calls Try.prog 72 #[.pointer (some ⟨bb, 0, none⟩), .slice none 0 0] w fun y w' => y = .returned (.bool true) ∧ w' = w := by
  go_enter Try.func72, Try.ntmps72
  go_wp2
  go_loopw [5] (fun v wr => v = .int .i64 0 ∧ wr = w) (fun _ _ => 0)
  case atStart => exact ⟨rfl, rfl⟩
  case round =>
    obtain ⟨rfl, rfl⟩ := hrel
    go_wp2
    go_ret
    exact ⟨rfl, rfl⟩
theorem look_73 (w : World) : Calls Try.prog 73 #[.pointer (some ⟨bb, 0, none⟩), .slice none 0 0] w fun y w' => y = .returned (.bool true) ∧ w' = w := by
  go_enter Try.func73, Try.ntmps73
  go_wp2
  go_loopw [5] (fun v wr => v = .int .i64 0 ∧ wr = w) (fun _ _ => 0)
  case atStart => exact ⟨rfl, rfl⟩
  case round =>
    obtain ⟨rfl, rfl⟩ := hrel
    go_wp2
    go_ret
    exact ⟨rfl, rfl⟩
theorem look_74 (w : World) : Calls Try.prog 74 #[.pointer (some ⟨bb, 0, none⟩), .slice none 0 0] w fun y w' => y = .returned (.bool true) ∧ w' = w := by
  go_enter Try.func74, Try.ntmps74
  go_wp2
  go_loopw [5] (fun v wr => v = .int .i64 0 ∧ wr = w) (fun _ _ => 0)
  case atStart => exact ⟨rfl, rfl⟩
  case round =>
    obtain ⟨rfl, rfl⟩ := hrel
    go_wp2
    go_ret
    exact ⟨rfl, rfl⟩
set_option maxRecDepth 100000 in
set_option maxHeartbeats 4000000 in
theorem close_49 (h : Box w 57 bb (bkA hv wv ov mv n)) : Calls Try.prog 49 #[.pointer (some ⟨bb, 0, none⟩)] w fun y w' => y = .returned (.bool true) ∧ w' = w := by
  have c0 : w.cell? ⟨bb, 0, none⟩ = some (.slice none 0 0) := h.cell 0
  have c1 : w.cell? ⟨bb, 2, none⟩ = some (.slice none 0 0) := h.cell 2
  have c2 : w.cell? ⟨bb, 3, none⟩ = some (.slice none 0 0) := h.cell 3
  have hl := look_67 (bb := bb) w
  clear h
  go_enter Try.func49, Try.ntmps49
  go_wp2
  go_loopw [3] (fun v wr => v = .int .i64 0 ∧ wr = w) (fun _ _ => 0)
  case atStart => exact ⟨rfl, rfl⟩
  case round =>
    obtain ⟨rfl, hwr⟩ := hrel
    subst hwr
    go_wp2
    go_loopw [5] (fun v wq => v = .int .i64 0 ∧ wq = wr) (fun _ _ => 0)
    case atStart => exact ⟨rfl, rfl⟩
    case round =>
      obtain ⟨rfl, hwq⟩ := hrel
      subst hwq
      go_wp2_with (first | (go_at_call 67; go_must (refine hl.mono ?_); rintro y w7 ⟨rfl, hw7⟩; subst hw7) | fail)
      go_loopw [8] (fun v wz => v = .int .i64 0 ∧ wz = w7) (fun _ _ => 0)
      case atStart => exact ⟨rfl, rfl⟩
      case round =>
        obtain ⟨rfl, hwz⟩ := hrel
        subst hwz
        go_wp2_with (first | (go_at_call 67; go_must (refine hl.mono ?_); rintro y w7 ⟨rfl, hw7⟩; subst hw7) | fail)
        go_ret
        exact ⟨rfl, rfl⟩
set_option maxRecDepth 100000 in
set_option maxHeartbeats 4000000 in
theorem close_50 (h : Box w 57 bb (bkA hv wv ov mv n)) : Calls Try.prog 50 #[.pointer (some ⟨bb, 0, none⟩)] w fun y w' => y = .returned (.bool true) ∧ w' = w := by
  have c0 : w.cell? ⟨bb, 4, none⟩ = some (.slice none 0 0) := h.cell 4
  have c1 : w.cell? ⟨bb, 6, none⟩ = some (.slice none 0 0) := h.cell 6
  have c2 : w.cell? ⟨bb, 7, none⟩ = some (.slice none 0 0) := h.cell 7
  have hl := look_68 (bb := bb) w
  clear h
  go_enter Try.func50, Try.ntmps50
  go_wp2
  go_loopw [3] (fun v wr => v = .int .i64 0 ∧ wr = w) (fun _ _ => 0)
  case atStart => exact ⟨rfl, rfl⟩
  case round =>
    obtain ⟨rfl, hwr⟩ := hrel
    subst hwr
    go_wp2
    go_loopw [5] (fun v wq => v = .int .i64 0 ∧ wq = wr) (fun _ _ => 0)
    case atStart => exact ⟨rfl, rfl⟩
    case round =>
      obtain ⟨rfl, hwq⟩ := hrel
      subst hwq
      go_wp2_with (first | (go_at_call 68; go_must (refine hl.mono ?_); rintro y w7 ⟨rfl, hw7⟩; subst hw7) | fail)
      go_loopw [8] (fun v wz => v = .int .i64 0 ∧ wz = w7) (fun _ _ => 0)
      case atStart => exact ⟨rfl, rfl⟩
      case round =>
        obtain ⟨rfl, hwz⟩ := hrel
        subst hwz
        go_wp2_with (first | (go_at_call 68; go_must (refine hl.mono ?_); rintro y w7 ⟨rfl, hw7⟩; subst hw7) | fail)
        go_ret
        exact ⟨rfl, rfl⟩
set_option maxRecDepth 100000 in
set_option maxHeartbeats 4000000 in
theorem close_51 (h : Box w 57 bb (bkA hv wv ov mv n)) : Calls Try.prog 51 #[.pointer (some ⟨bb, 0, none⟩)] w fun y w' => y = .returned (.bool true) ∧ w' = w := by
  have c0 : w.cell? ⟨bb, 8, none⟩ = some (.slice none 0 0) := h.cell 8
  have c1 : w.cell? ⟨bb, 10, none⟩ = some (.slice none 0 0) := h.cell 10
  have c2 : w.cell? ⟨bb, 11, none⟩ = some (.slice none 0 0) := h.cell 11
  have hl := look_70 (bb := bb) w
  clear h
  go_enter Try.func51, Try.ntmps51
  go_wp2
  go_loopw [3] (fun v wr => v = .int .i64 0 ∧ wr = w) (fun _ _ => 0)
  case atStart => exact ⟨rfl, rfl⟩
  case round =>
    obtain ⟨rfl, hwr⟩ := hrel
    subst hwr
    go_wp2
    go_loopw [5] (fun v wq => v = .int .i64 0 ∧ wq = wr) (fun _ _ => 0)
    case atStart => exact ⟨rfl, rfl⟩
    case round =>
      obtain ⟨rfl, hwq⟩ := hrel
      subst hwq
      go_wp2_with (first | (go_at_call 70; go_must (refine hl.mono ?_); rintro y w7 ⟨rfl, hw7⟩; subst hw7) | fail)
      go_loopw [8] (fun v wz => v = .int .i64 0 ∧ wz = w7) (fun _ _ => 0)
      case atStart => exact ⟨rfl, rfl⟩
      case round =>
        obtain ⟨rfl, hwz⟩ := hrel
        subst hwz
        go_wp2_with (first | (go_at_call 70; go_must (refine hl.mono ?_); rintro y w7 ⟨rfl, hw7⟩; subst hw7) | fail)
        go_ret
        exact ⟨rfl, rfl⟩
set_option maxRecDepth 100000 in
set_option maxHeartbeats 4000000 in
theorem close_53 (h : Box w 57 bb (bkA hv wv ov mv n)) : Calls Try.prog 53 #[.pointer (some ⟨bb, 0, none⟩)] w fun y w' => y = .returned (.bool true) ∧ w' = w := by
  have c0 : w.cell? ⟨bb, 16, none⟩ = some (.slice none 0 0) := h.cell 16
  have c1 : w.cell? ⟨bb, 17, none⟩ = some (.slice none 0 0) := h.cell 17
  have c2 : w.cell? ⟨bb, 18, none⟩ = some (.slice none 0 0) := h.cell 18
  have hl := look_72 (bb := bb) w
  clear h
  go_enter Try.func53, Try.ntmps53
  go_wp2
  go_loopw [3] (fun v wr => v = .int .i64 0 ∧ wr = w) (fun _ _ => 0)
  case atStart => exact ⟨rfl, rfl⟩
  case round =>
    obtain ⟨rfl, hwr⟩ := hrel
    subst hwr
    go_wp2
    go_loopw [5] (fun v wq => v = .int .i64 0 ∧ wq = wr) (fun _ _ => 0)
    case atStart => exact ⟨rfl, rfl⟩
    case round =>
      obtain ⟨rfl, hwq⟩ := hrel
      subst hwq
      go_wp2_with (first | (go_at_call 72; go_must (refine hl.mono ?_); rintro y w7 ⟨rfl, hw7⟩; subst hw7) | fail)
      go_loopw [8] (fun v wz => v = .int .i64 0 ∧ wz = w7) (fun _ _ => 0)
      case atStart => exact ⟨rfl, rfl⟩
      case round =>
        obtain ⟨rfl, hwz⟩ := hrel
        subst hwz
        go_wp2_with (first | (go_at_call 72; go_must (refine hl.mono ?_); rintro y w7 ⟨rfl, hw7⟩; subst hw7) | fail)
        go_ret
        exact ⟨rfl, rfl⟩
set_option maxRecDepth 100000 in
set_option maxHeartbeats 4000000 in
theorem close_54 (h : Box w 57 bb (bkA hv wv ov mv n)) : Calls Try.prog 54 #[.pointer (some ⟨bb, 0, none⟩)] w fun y w' => y = .returned (.bool true) ∧ w' = w := by
  have c0 : w.cell? ⟨bb, 19, none⟩ = some (.slice none 0 0) := h.cell 19
  have c1 : w.cell? ⟨bb, 20, none⟩ = some (.slice none 0 0) := h.cell 20
  have c2 : w.cell? ⟨bb, 21, none⟩ = some (.slice none 0 0) := h.cell 21
  have hl := look_73 (bb := bb) w
  clear h
  go_enter Try.func54, Try.ntmps54
  go_wp2
  go_loopw [3] (fun v wr => v = .int .i64 0 ∧ wr = w) (fun _ _ => 0)
  case atStart => exact ⟨rfl, rfl⟩
  case round =>
    obtain ⟨rfl, hwr⟩ := hrel
    subst hwr
    go_wp2
    go_loopw [5] (fun v wq => v = .int .i64 0 ∧ wq = wr) (fun _ _ => 0)
    case atStart => exact ⟨rfl, rfl⟩
    case round =>
      obtain ⟨rfl, hwq⟩ := hrel
      subst hwq
      go_wp2_with (first | (go_at_call 73; go_must (refine hl.mono ?_); rintro y w7 ⟨rfl, hw7⟩; subst hw7) | fail)
      go_loopw [8] (fun v wz => v = .int .i64 0 ∧ wz = w7) (fun _ _ => 0)
      case atStart => exact ⟨rfl, rfl⟩
      case round =>
        obtain ⟨rfl, hwz⟩ := hrel
        subst hwz
        go_wp2_with (first | (go_at_call 73; go_must (refine hl.mono ?_); rintro y w7 ⟨rfl, hw7⟩; subst hw7) | fail)
        go_ret
        exact ⟨rfl, rfl⟩
set_option maxRecDepth 100000 in
set_option maxHeartbeats 4000000 in
theorem close_55 (h : Box w 57 bb (bkA hv wv ov mv n)) : Calls Try.prog 55 #[.pointer (some ⟨bb, 0, none⟩)] w fun y w' => y = .returned (.bool true) ∧ w' = w := by
  have c0 : w.cell? ⟨bb, 22, none⟩ = some (.slice none 0 0) := h.cell 22
  have c1 : w.cell? ⟨bb, 23, none⟩ = some (.slice none 0 0) := h.cell 23
  have c2 : w.cell? ⟨bb, 24, none⟩ = some (.slice none 0 0) := h.cell 24
  have hl := look_74 (bb := bb) w
  clear h
  go_enter Try.func55, Try.ntmps55
  go_wp2
  go_loopw [3] (fun v wr => v = .int .i64 0 ∧ wr = w) (fun _ _ => 0)
  case atStart => exact ⟨rfl, rfl⟩
  case round =>
    obtain ⟨rfl, hwr⟩ := hrel
    subst hwr
    go_wp2
    go_loopw [5] (fun v wq => v = .int .i64 0 ∧ wq = wr) (fun _ _ => 0)
    case atStart => exact ⟨rfl, rfl⟩
    case round =>
      obtain ⟨rfl, hwq⟩ := hrel
      subst hwq
      go_wp2_with (first | (go_at_call 74; go_must (refine hl.mono ?_); rintro y w7 ⟨rfl, hw7⟩; subst hw7) | fail)
      go_loopw [8] (fun v wz => v = .int .i64 0 ∧ wz = w7) (fun _ _ => 0)
      case atStart => exact ⟨rfl, rfl⟩
      case round =>
        obtain ⟨rfl, hwz⟩ := hrel
        subst hwz
        go_wp2_with (first | (go_at_call 74; go_must (refine hl.mono ?_); rintro y w7 ⟨rfl, hw7⟩; subst hw7) | fail)
        go_ret
        exact ⟨rfl, rfl⟩
end

end Go.Proofs.Ytagcmfaljfaikaa
