import Derived.Test.YtjkdflnnpdionaaGreatMs
/-
  The document's Push; the document's Lru: Is, Enter, Leave, Hit, Len.
-/
namespace Go.Proofs.YtjkdflnnpdionaaGreat
open Go.RowKit
set_option linter.unusedVariables false

section
variable {w : World} {lb rb lsb : Nat} {lv : Value} {vs : Nat → Value} {Y : Nat → List Nat} {szb szc : Nat}
set_option maxRecDepth 100000 in
theorem rpush_arg {H : Nat} {k : Int} {l : Bool} (hk : ¬ (1 ≤ k ∧ k ≤ 3)) (w : World) :
    Calls Tryz.prog 31 #[.pointer (some ⟨lb, 0, none⟩), .int .u64 H, .int .i64 k, .bool l] w fun y w' => y = .returned (.int .i64 1) ∧ w = w' := by
  by_cases k1 : k < 1
  · clear hk
    go_enter Tryz.func31, Tryz.ntmps31
    go_wp2
    go_ret
    exact ⟨rfl, rfl⟩
  · have k2 : (3 : Int) < k := by omega
    clear hk
    go_enter Tryz.func31, Tryz.ntmps31
    go_wp2
    go_ret
    exact ⟨rfl, rfl⟩
set_option maxRecDepth 100000 in
/-- Push that is refused: no item. -/
theorem rpush_handle {H k : Nat} {l : Bool} (hk : k < 3) (hIs : Calls Tryz.prog 27 #[.pointer (some ⟨lb, 0, none⟩), .int .u64 H] w fun y w' => y = .returned (.bool false) ∧ w.grownBy w' none) :
    Calls Tryz.prog 31 #[.pointer (some ⟨lb, 0, none⟩), .int .u64 H, .int .i64 ((k : Int) + 1), .bool l] w fun y w' => y = .returned (.int .i64 20) ∧ w.grownBy w' none := by
  have k1 : ¬ (k : Int) + 1 < 1 := by omega
  have k2 : ¬ (3 : Int) < (k : Int) + 1 := by omega
  go_enter Tryz.func31, Tryz.ntmps31
  go_wp2_with (first | (go_at_call 27; go_must (refine hIs.mono ?_); rintro y w1 ⟨rfl, hf1⟩) | fail)
  go_ret
  exact ⟨rfl, hf1⟩
set_option maxRecDepth 100000 in
/-- Push that is refused: it stands in a list. -/
theorem rpush_twice (h : RQ w lb rb lsb lv vs Y szb szc) {H k j : Nat} {U V : List Nat} {l : Bool} (hk : k < 3) (hS : Stands Y H j U V) (hIs : Calls Tryz.prog 27 #[.pointer (some ⟨lb, 0, none⟩), .int .u64 H] w fun y w' => y = .returned (.bool true) ∧ w.grownBy w' none) :
    Calls Tryz.prog 31 #[.pointer (some ⟨lb, 0, none⟩), .int .u64 H, .int .i64 ((k : Int) + 1), .bool l] w fun y w' => y = .returned (.int .i64 8) ∧ w.grownBy w' none := by
  have k1 : ¬ (k : Int) + 1 < 1 := by omega
  have k2 : ¬ (3 : Int) < (k : Int) + 1 := by omega
  have hw := fun W (hW : w.grownBy W none) => where_yes (h.kept0 hW) hS
  have hj : (j : Int) ≥ 0 := by omega
  generalize U.length = ul at *
  clear h hS
  go_enter Tryz.func31, Tryz.ntmps31
  go_wp2_with (first | (go_at_call 27; go_must (refine hIs.mono ?_); rintro y w1 ⟨rfl, hf1⟩) | (go_at_call 85; go_must (refine (hw _ hf1).mono ?_); rintro y w' ⟨rfl, rfl⟩) | fail)
  go_ret
  exact ⟨rfl, hf1⟩
set_option maxRecDepth 100000 in
/-- Push at the head. -/
theorem rpush_yes (h : RQ w lb rb lsb lv vs Y szb szc) (hrb : rb ≠ lsb) {H c k : Nat} {pl : Int} (hc : c < 3) (hk : k < 3) (hln : (Y (3 * c + k)).length < 1000) (hS : Nowhere Y H) (hIs : Calls Tryz.prog 27 #[.pointer (some ⟨lb, 0, none⟩), .int .u64 H] w fun y w' => y = .returned (.bool true) ∧ w.grownBy w' none)
    (hAt : ∀ W, w.grownBy W none → Calls Tryz.prog 96 #[.pointer (some ⟨rb, 0, none⟩), .int .u64 H] W fun y w' => y = .returned (.tuple #[.int .i64 pl, .int .i64 c, .int .i64 0]) ∧ W.grownBy w' none) :
    Calls Tryz.prog 31 #[.pointer (some ⟨lb, 0, none⟩), .int .u64 H, .int .i64 ((k : Int) + 1), .bool false] w fun y w' => y = .returned (.int .i64 0) ∧ Kp (fun k => k = lsb) w w' ∧ ∃ v', RQ w' lb rb lsb lv (upV vs (3 * c + k) v') (upY Y (3 * c + k) (H :: Y (3 * c + k))) szb szc ∧ ∀ k, v'.ownBlock = some k → w.heap.size ≤ k := by
  have k1 : ¬ (k : Int) + 1 < 1 := by omega
  have k2 : ¬ (3 : Int) < (k : Int) + 1 := by omega
  have hw := fun W (hW : w.grownBy W none) => where_no (h.kept0 hW) hS
  have hp := fun W (hW : w.grownBy W none) => (put_103 (h.kept0 hW) hrb hc hk hln (hAt W hW)).mono (R' := fun y w' => y = .returned (.tuple #[]) ∧ Hid (Kp (fun k => k = lsb) w w' ∧ ∃ v', RQ w' lb rb lsb lv (upV vs (3 * c + k) v') (upY Y (3 * c + k) (H :: Y (3 * c + k))) szb szc ∧ ∀ k, v'.ownBlock = some k → w.heap.size ≤ k)) (by
    rintro y w' ⟨rfl, h1, v', h2, h3⟩
    exact ⟨rfl, (Kp.of hW).trans h1 (fun _ h => h) (fun k hk => .inl hk), v', h2, fun k hk => Nat.le_trans hW.size (h3 k hk)⟩)
  clear h hS hAt
  go_enter Tryz.func31, Tryz.ntmps31
  go_wp2_with (first | (go_at_call 27; go_must (refine hIs.mono ?_); rintro y w1 ⟨rfl, hf1⟩) | (go_at_call 85; go_must (refine (hw _ hf1).mono ?_); rintro y w' ⟨rfl, rfl⟩) | (go_at_call 86; go_must (with_reducible refine (hp _ hf1).mono ?_); rintro y w2 ⟨rfl, hE2⟩) | fail)
  go_ret
  exact ⟨rfl, hE2.out⟩

end
end Go.Proofs.YtjkdflnnpdionaaGreat
