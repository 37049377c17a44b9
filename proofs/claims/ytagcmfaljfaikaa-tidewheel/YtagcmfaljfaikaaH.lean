/-
  below, sink, fill.
-/
import Derived.Test.YtagcmfaljfaikaaG
namespace Go.Proofs.Ytagcmfaljfaikaa
open Go.RowKit
set_option linter.unusedVariables false

theorem kids {i g : Nat} (h : 0 < i) (hp : par i = g) : i = 2 * g + 1 ∨ i = 2 * g + 2 := by unfold par at hp; omega
theorem par_l (g : Nat) : par (2 * g + 1) = g := by unfold par; omega
theorem par_r (g : Nat) : par (2 * g + 2) = g := by unfold par; omega
theorem kid_int (g : Nat) : 2 * (g : Int) + 1 = ((2 * g + 1 : Nat) : Int) ∧ 2 * (g : Int) + 2 = ((2 * g + 2 : Nat) : Int) := by omega

section
variable {w : World} {t : TypeId} {b : Nat} {tl : List Value} {F : Nat → Prop} {rv : Value} {mb n : Nat} {r : Nat → En} {S : En → Prop} {g : Nat} {e : En} {c : Nat} {m : Int → Option Nat}

set_option maxRecDepth 100000 in
set_option maxHeartbeats 4000000 in
theorem below_no (h : IsHp w t b tl F rv mb n r c m) (hn : n < 1000000) (hg : g < n) (hl : n ≤ 2 * g + 1) :
    Calls Try.prog 82 #[.pointer (some ⟨b, 0, none⟩), .int .i64 g] w fun y w' => y = .returned (.tuple #[.int .i64 0, .bool false]) ∧ w' = w := by
  obtain ⟨gb, cap, hrv, hcap, hmax⟩ := h.shape (by omega)
  subst hrv
  have c0 := h.c0
  have h61 := fun W => left_61 (g : Int) (by omega) (by omega) W
  have h62 := fun W => right_62 (g : Int) (by omega) (by omega) W
  rw [(kid_int g).1] at h61
  rw [(kid_int g).2] at h62
  generalize 2 * g + 1 = l at *
  generalize 2 * g + 2 = rr at *
  go_enter Try.func82, Try.ntmps82
  go_wp2_with (first | (go_at_call 61; refine (h61 _).mono ?_; rintro y w1 ⟨rfl, rfl⟩) | (go_at_call 62; refine (h62 _).mono ?_; rintro y w1 ⟨rfl, rfl⟩) | fail)
  go_ret2
  exact ⟨rfl, rfl⟩

set_option maxRecDepth 100000 in
set_option maxHeartbeats 4000000 in
theorem below_A (h : IsHp w t b tl F rv mb n r c m) (hn : n < 1000000) {l q : Nat} (hl : l < n) (hq : q < 3000000)
    (h61 : ∀ W, Calls Try.prog 61 #[.int .i64 g] W fun y w' => y = .returned (.int .i64 l) ∧ w' = W) (h62 : ∀ W, Calls Try.prog 62 #[.int .i64 g] W fun y w' => y = .returned (.int .i64 q) ∧ w' = W) (hqn : q < n) (hah : ah (r q) (r l)) :
    Calls Try.prog 82 #[.pointer (some ⟨b, 0, none⟩), .int .i64 g] w fun y w' => y = .returned (.tuple #[.int .i64 q, .bool true]) ∧ w.grownBy w' none := by
  obtain ⟨gb, cap, hrv, hcap, hmax⟩ := h.shape (by omega)
  subst hrv
  have c0 := h.c0
  obtain ⟨d0, d1, d2⟩ := h.cells rfl hl
  obtain ⟨f0, f1, f2⟩ := h.cells rfl hqn
  have h78 := fun W => ahead_78 (r q) (r l) W
  unfold enV at h78
  rw [decide_eq_true hah] at h78
  have hd1 : decide ((q : Int) < n) = true := by simp; omega
  have hd2 : decide (q < n) = true := by simp; omega
  have hd3 : (l : Int) < n := by omega
  have hd4 : (q : Int) < n := by omega
  clear hah
  go_enter Try.func82, Try.ntmps82
  go_wp2_with (first | (go_at_call 61; refine (h61 _).mono ?_; rintro y w1 ⟨rfl, rfl⟩) | (go_at_call 62; refine (h62 _).mono ?_; rintro y w1 ⟨rfl, rfl⟩) | fail)
  go_region_held3 (fun w' => w'.cell? ⟨b, 0, none⟩ = some (.slice (some ⟨gb, 0, none⟩) n cap) ∧ w'.cell? ⟨gb, l * 3, none⟩ = some (.int .u64 (r l).h) ∧ w'.cell? ⟨gb, l * 3 + 1, none⟩ = some (.int .i64 (r l).x) ∧ w'.cell? ⟨gb, l * 3 + 2, none⟩ = some (.int .i64 (r l).t) ∧ w'.cell? ⟨gb, q * 3, none⟩ = some (.int .u64 (r q).h) ∧ w'.cell? ⟨gb, q * 3 + 1, none⟩ = some (.int .i64 (r q).x) ∧ w'.cell? ⟨gb, q * 3 + 2, none⟩ = some (.int .i64 (r q).t)) ((first | exact ⟨gb_cellN hg2 c0, gb_cellN hg2 d0, gb_cellN hg2 d1, gb_cellN hg2 d2, gb_cellN hg2 f0, gb_cellN hg2 f1, gb_cellN hg2 f2⟩ | go_keep)) ((first | (go_at_call 78; with_reducible refine (h78 _).mono ?_; rintro y w2 ⟨rfl, hf2⟩; have hg2 := gb_trans (gb_drew (gb_refl _ none)) hf2)))
  go_wp2
  go_ret2
  exact ⟨rfl, hg2⟩
set_option maxRecDepth 100000 in
set_option maxHeartbeats 4000000 in
theorem below_B (h : IsHp w t b tl F rv mb n r c m) (hn : n < 1000000) {l q : Nat} (hl : l < n) (hq : q < 3000000)
    (h61 : ∀ W, Calls Try.prog 61 #[.int .i64 g] W fun y w' => y = .returned (.int .i64 l) ∧ w' = W) (h62 : ∀ W, Calls Try.prog 62 #[.int .i64 g] W fun y w' => y = .returned (.int .i64 q) ∧ w' = W) (hqn : q < n) (hah : ¬ ah (r q) (r l)) :
    Calls Try.prog 82 #[.pointer (some ⟨b, 0, none⟩), .int .i64 g] w fun y w' => y = .returned (.tuple #[.int .i64 l, .bool true]) ∧ w.grownBy w' none := by
  obtain ⟨gb, cap, hrv, hcap, hmax⟩ := h.shape (by omega)
  subst hrv
  have c0 := h.c0
  obtain ⟨d0, d1, d2⟩ := h.cells rfl hl
  obtain ⟨f0, f1, f2⟩ := h.cells rfl hqn
  have h78 := fun W => ahead_78 (r q) (r l) W
  unfold enV at h78
  rw [decide_eq_false hah] at h78
  have hd1 : decide ((q : Int) < n) = true := by simp; omega
  have hd2 : decide (q < n) = true := by simp; omega
  have hd3 : (l : Int) < n := by omega
  have hd4 : (q : Int) < n := by omega
  clear hah
  go_enter Try.func82, Try.ntmps82
  go_wp2_with (first | (go_at_call 61; refine (h61 _).mono ?_; rintro y w1 ⟨rfl, rfl⟩) | (go_at_call 62; refine (h62 _).mono ?_; rintro y w1 ⟨rfl, rfl⟩) | fail)
  go_region_held3 (fun w' => w'.cell? ⟨b, 0, none⟩ = some (.slice (some ⟨gb, 0, none⟩) n cap) ∧ w'.cell? ⟨gb, l * 3, none⟩ = some (.int .u64 (r l).h) ∧ w'.cell? ⟨gb, l * 3 + 1, none⟩ = some (.int .i64 (r l).x) ∧ w'.cell? ⟨gb, l * 3 + 2, none⟩ = some (.int .i64 (r l).t) ∧ w'.cell? ⟨gb, q * 3, none⟩ = some (.int .u64 (r q).h) ∧ w'.cell? ⟨gb, q * 3 + 1, none⟩ = some (.int .i64 (r q).x) ∧ w'.cell? ⟨gb, q * 3 + 2, none⟩ = some (.int .i64 (r q).t)) ((first | exact ⟨gb_cellN hg2 c0, gb_cellN hg2 d0, gb_cellN hg2 d1, gb_cellN hg2 d2, gb_cellN hg2 f0, gb_cellN hg2 f1, gb_cellN hg2 f2⟩ | go_keep)) ((first | (go_at_call 78; with_reducible refine (h78 _).mono ?_; rintro y w2 ⟨rfl, hf2⟩; have hg2 := gb_trans (gb_drew (gb_refl _ none)) hf2)))
  go_wp2
  go_ret2
  exact ⟨rfl, hg2⟩
set_option maxRecDepth 100000 in
set_option maxHeartbeats 4000000 in
theorem below_C (h : IsHp w t b tl F rv mb n r c m) (hn : n < 1000000) {l q : Nat} (hl : l < n) (hq : q < 3000000)
    (h61 : ∀ W, Calls Try.prog 61 #[.int .i64 g] W fun y w' => y = .returned (.int .i64 l) ∧ w' = W) (h62 : ∀ W, Calls Try.prog 62 #[.int .i64 g] W fun y w' => y = .returned (.int .i64 q) ∧ w' = W) (hqn : ¬ q < n) :
    Calls Try.prog 82 #[.pointer (some ⟨b, 0, none⟩), .int .i64 g] w fun y w' => y = .returned (.tuple #[.int .i64 l, .bool true]) ∧ w.grownBy w' none := by
  obtain ⟨gb, cap, hrv, hcap, hmax⟩ := h.shape (by omega)
  subst hrv
  have c0 := h.c0
  have hd1 : decide ((q : Int) < n) = false := by simp; omega
  have hd2 : decide (q < n) = false := by simp; omega
  go_enter Try.func82, Try.ntmps82
  go_wp2_with (first | (go_at_call 61; refine (h61 _).mono ?_; rintro y w1 ⟨rfl, rfl⟩) | (go_at_call 62; refine (h62 _).mono ?_; rintro y w1 ⟨rfl, rfl⟩) | fail)
  go_quiet (fail)
  go_wp2
  go_ret2
  exact ⟨rfl, gb_drewN (gb_refl _ _) _⟩
theorem below_yes (h : IsHp w t b tl F rv mb n r c m) (hn : n < 1000000) (hl : 2 * g + 1 < n) :
    ∃ k, 0 < k ∧ k < n ∧ par k = g ∧ (∀ i, 0 < i → i < n → par i = g → ¬ ah (r i) (r k)) ∧
    ∀ w', IsHp w' t b tl F rv mb n r c m → Calls Try.prog 82 #[.pointer (some ⟨b, 0, none⟩), .int .i64 g] w' fun y w'' => y = .returned (.tuple #[.int .i64 k, .bool true]) ∧ w'.grownBy w'' none := by
  have h61 := fun W => left_61 (g : Int) (by omega) (by omega) W
  have h62 := fun W => right_62 (g : Int) (by omega) (by omega) W
  rw [(kid_int g).1] at h61
  rw [(kid_int g).2] at h62
  by_cases hrn : 2 * g + 2 < n
  · by_cases hah : ah (r (2 * g + 2)) (r (2 * g + 1))
    · refine ⟨2 * g + 2, by omega, hrn, par_r g, fun i h0 hi hp => ?_, fun w' h' => below_A h' hn hl (by omega) h61 h62 hrn hah⟩
      rcases kids h0 hp with rfl | rfl
      · exact ah_nah hah
      · exact ah_irrefl _
    · refine ⟨2 * g + 1, by omega, hl, par_l g, fun i h0 hi hp => ?_, fun w' h' => below_B h' hn hl (by omega) h61 h62 hrn hah⟩
      rcases kids h0 hp with rfl | rfl
      · exact ah_irrefl _
      · exact hah
  · refine ⟨2 * g + 1, by omega, hl, par_l g, fun i h0 hi hp => ?_, fun w' h' => below_C h' hn hl (by omega) h61 h62 hrn⟩
    rcases kids h0 hp with rfl | rfl
    · exact ah_irrefl _
    · omega
end

end Go.Proofs.Ytagcmfaljfaikaa
