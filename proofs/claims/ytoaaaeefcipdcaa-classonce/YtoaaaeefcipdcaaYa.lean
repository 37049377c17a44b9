import Derived.Test.YtoaaaeefcipdcaaXe
/-
  ClassOnce: pieces in memory; count.
-/
namespace Go.Proofs.Ytoaaaeefcipdcaa
open Go.RowKit
set_option linter.unusedVariables false

/-- A piece: the handle, from, to. -/
def pcf (T : List (Nat × Nat × Nat)) (i : Nat) : List Value := [.int .u64 ((T.getD i (0, 0, 0)).1 : Nat), .int .i64 ((T.getD i (0, 0, 0)).2.1 : Nat), .int .i64 ((T.getD i (0, 0, 0)).2.2 : Nat)]
def pcL (T : List (Nat × Nat × Nat)) : List Value := rng T.length (pcf T)
theorem pcL_get (T : List (Nat × Nat × Nat)) {i : Nat} (h : i < T.length) (j : Nat) (hj : j < 3) : (pcL T)[i * 3 + j]? = (pcf T i)[j]? :=
  rng_get (f := pcf T) (s := 3) (fun _ => rfl) h hj

/-- What is said of pieces' numbers. -/
def PcOk (T : List (Nat × Nat × Nat)) : Prop := T.length ≤ 1000 ∧ ∀ t, t ∈ T → t.2.1 ≤ t.2.2 ∧ t.2.2 ≤ 4398046511104
theorem PcOk.get {T : List (Nat × Nat × Nat)} (h : PcOk T) {i : Nat} (hi : i < T.length) : (T.getD i (0, 0, 0)).2.1 ≤ (T.getD i (0, 0, 0)).2.2 ∧ (T.getD i (0, 0, 0)).2.2 ≤ 4398046511104 := by
  rw [List.getD_eq_getElem?_getD, List.getElem?_eq_getElem hi]
  exact h.2 _ (List.getElem_mem hi)

theorem row3 {w : World} {B g c : Nat} {T : List (Nat × Nat × Nat)} (h : w.ownsRow B 63 3 (.slice (some ⟨g, 0, none⟩) T.length c) T.length (pcL T)) {i : Nat} (hi : i < T.length) :
    w.cell? ⟨g, i * 3, none⟩ = some (.int .u64 ((T.getD i (0, 0, 0)).1 : Nat)) ∧ w.cell? ⟨g, i * 3 + 1, none⟩ = some (.int .i64 ((T.getD i (0, 0, 0)).2.1 : Nat)) ∧ w.cell? ⟨g, i * 3 + 2, none⟩ = some (.int .i64 ((T.getD i (0, 0, 0)).2.2 : Nat)) :=
  ⟨row_cell h (i * 3) _ (pcL_get T hi 0 (by omega)), row_cell h (i * 3 + 1) _ (pcL_get T hi 1 (by omega)), row_cell h (i * 3 + 2) _ (pcL_get T hi 2 (by omega))⟩

/-- How many of these have so many bytes. -/
def cnt (T : List (Nat × Nat × Nat)) (s : Nat) : Nat := T.countP fun t => t.2.2 - t.2.1 == s
theorem cnt_take (T : List (Nat × Nat × Nat)) (s : Nat) {i : Nat} (h : i < T.length) : cnt (T.take (i + 1)) s = cnt (T.take i) s + if (T.getD i (0, 0, 0)).2.2 - (T.getD i (0, 0, 0)).2.1 = s then 1 else 0 := by
  unfold cnt
  rw [List.take_add_one, List.getElem?_eq_getElem h, List.countP_append, List.getD_eq_getElem?_getD, List.getElem?_eq_getElem h]
  simp [List.countP_cons]
theorem cnt_le (T : List (Nat × Nat × Nat)) (s i : Nat) : cnt (T.take i) s ≤ i := by
  unfold cnt
  exact Nat.le_trans List.countP_le_length (by rw [List.length_take]; omega)

set_option maxRecDepth 100000 in
set_option maxHeartbeats 2000000 in
theorem count_22 {w : World} {B : Nat} {tv : Value} {T : List (Nat × Nat × Nat)} (h1 : w.ownsRow B 63 3 tv T.length (pcL T)) (hT : PcOk T) (s : Nat) (hs : s ≤ 4398046511104) :
    Calls Try.prog 22 #[tv, .int .i64 s] w fun e w' => e = .returned (.int .i64 (cnt T s : Nat)) ∧ w.grownBy w' none := by
  obtain ⟨a1, c1, rfl, _, _, _, g1⟩ := row_shape h1
  have hct := fun i hi => cnt_take T s (i := i) hi
  have hcl := cnt_le T s
  have hgt := fun i hi => hT.get (i := i) hi
  have hl := hT.1
  have hr := fun (q : Nat) (b : Nat) (e : a1 = some ⟨b, 0, none⟩) i hi => row3 (w := w.drewN q) (T := T) (by rw [← e]; exact h1) (i := i) hi
  have hend : cnt (T.take T.length) s = cnt T s := by rw [List.take_length]
  have hc0 : cnt (T.take 0) s = 0 := by simp [cnt]
  clear h1 hT
  generalize T.length = n at *
  go_enter Try.func22, Try.ntmps22
  go_wp2
  go_loopw [5, 6] (fun y x wr => ∃ (k : Nat), k ≤ n ∧ x = .int .i64 k ∧ y = .int .i64 (cnt (T.take k) s : Nat) ∧ ∃ q, wr = w.drewN q) (fun _ x _ => n - (intOf x).toNat)
  case atStart => exact ⟨0, by omega, rfl, by rw [hc0]; rfl, 0, rfl⟩
  case round =>
    obtain ⟨k, hk, rfl, rfl, q, rfl⟩ := hrel
    by_cases hlt : k < n
    · obtain ⟨b1, rfl⟩ := g1 (by omega)
      obtain ⟨k0, k1, k2⟩ := hr q b1 rfl k hlt
      obtain ⟨z1, z2⟩ := hgt k hlt
      have hc1 := hct k hlt
      have hc2 := hcl k
      generalize cnt (T.take k) s = C0 at *
      generalize (T.getD k (0, 0, 0)).2.1 = f at *
      generalize (T.getD k (0, 0, 0)).2.2 = t at *
      have hd : decide ((k : Int) < n) = true := by simp; omega
      have hd3 : decide (k < n) = true := by simp; omega
      have HE : Hid (∀ m, ∃ q', (w.drewN q).drewN m = w.drewN q') := fun m => ⟨q + m, by simp⟩
      clear hr hgt hct hcl g1 hend hc0
      generalize w.drewN q = V at *
      by_cases he : t - f = s
      · rw [if_pos he] at hc1
        have HC : Hid (cnt (T.take (k + 1)) s = C0 + 1) := hc1
        clear hc1
        have hbe : ((t : Int) - f == (s : Int)) = true := by simp; omega
        have hte : (t : Int) - f = (s : Int) := by omega
        go_wp2
        go_quiet (fail)
        go_wp2
        go_roundw
        case rel => exact ⟨k + 1, by omega, by go_num, by rw [HC.out]; go_num, HE.out _⟩
        case measure => simp [intOf]; omega
      · rw [if_neg he] at hc1
        have HC : Hid (cnt (T.take (k + 1)) s = C0) := hc1
        clear hc1
        have hbe : ((t : Int) - f == (s : Int)) = false := by simp; omega
        have hte : ¬ (t : Int) - f = (s : Int) := by omega
        go_wp2
        go_quiet (fail)
        go_wp2
        go_roundw
        case rel => exact ⟨k + 1, by omega, by go_num, by rw [HC.out], HE.out _⟩
        case measure => simp [intOf]; omega
    · obtain rfl : k = n := by omega
      rw [hend]
      clear hr hgt hct hcl g1 hend hc0
      go_wp2
      go_ret
      exact ⟨rfl, gb_drewN (gb_refl _ _) q⟩

end Go.Proofs.Ytoaaaeefcipdcaa
