/-
  Set; lend.
-/
import Derived.Test.YtagcmfaljfaikaaL
namespace Go.Proofs.Ytagcmfaljfaikaa
open Go.RowKit
set_option linter.unusedVariables false

section
variable {w : World} {wb : Nat} {F : Nat → Prop} {S : En → Prop} {sets n : Nat}
theorem Wh.congr {S' : En → Prop} (h : Wh w wb F S sets n) (hS : ∀ y, S y ↔ S' y) : Wh w wb F S' sets n := by
  have : S = S' := funext fun y => propext (hS y)
  rw [← this]; exact h

theorem rem_58 (h : Wh w wb F S sets n) (hn : n < 900000) (hH : ∀ y, S y → isH y.h) {x : Int} (hx : isH x) :
    ∃ b0 n0, (b0 = true ↔ ∃ y, S y ∧ y.h = x) ∧ n0 + (if b0 = true then 1 else 0) = n ∧
      Calls Try.prog 58 #[.pointer (some ⟨wb, 0, none⟩), .int .u64 x] w fun y w' => y = .returned (.bool b0) ∧ Kp F w w' ∧ Wh w' wb F (fun y => S y ∧ y.h ≠ x) sets n0 := by
  by_cases hex : ∃ y, S y ∧ y.h = x
  · obtain ⟨y, hy, hyx⟩ := hex
    obtain ⟨rv, mb, r, m, h1, h2, h3⟩ := h
    obtain ⟨g, hg, hge⟩ := h2.img.all y hy
    obtain ⟨n0, rfl⟩ : ∃ n0, n = n0 + 1 := ⟨n - 1, by omega⟩
    refine ⟨true, n0, ⟨fun _ => ⟨y, hy, hyx⟩, fun _ => rfl⟩, rfl, ?_⟩
    refine (remove_yes h1 h2 h3 (by omega) hH hx hg (by rw [hge, hyx])).mono ?_
    rintro z w' ⟨rfl, hk, rv', r', m', hi, hfu, hhp⟩
    exact ⟨rfl, hk, rv', mb, r', m', hi, hfu, hhp⟩
  · refine ⟨false, n, ⟨fun h => by simp at h, fun h => absurd h hex⟩, by simp, ?_⟩
    have h' := h.congr (S' := fun y => S y ∧ y.h ≠ x) (fun y => ⟨fun hy => ⟨hy, fun e => hex ⟨y, hy, e⟩⟩, fun hy => hy.1⟩)
    obtain ⟨rv, mb, r, m, h1, h2, h3⟩ := h
    have hm : m x = none := by
      cases hm : m x with
      | none => rfl
      | some i => obtain ⟨h4, h5⟩ := h2.no _ i hm; exact absurd ⟨_, h2.img.inn i h4, h5⟩ hex
    refine (remove_no h1 hx hm).mono ?_
    rintro z w' ⟨rfl, rfl⟩
    exact ⟨rfl, Kp.refl _ _, h'⟩

theorem set_30_low (h : Wh w wb F S sets n) (hn : n < 900000) (hH : ∀ y, S y → isH y.h) {x e : Int} (hx : isH x) (h1 : e < 1) :
    ∃ n0, n0 ≤ n ∧ Calls Try.prog 30 #[.pointer (some ⟨wb, 0, none⟩), .int .u64 x, .int .i64 e] w fun y w' => y = .returned (.tuple #[]) ∧ Kp F w w' ∧ Wh w' wb F (fun y => S y ∧ y.h ≠ x) sets n0 := by
  obtain ⟨b0, n0, h2, h3, h4⟩ := rem_58 h hn hH hx
  exact ⟨n0, by omega, set_low h1 h4⟩
theorem set_30_high (h : Wh w wb F S sets n) (hn : n < 800000) (hs : sets < 800000) (hH : ∀ y, S y → isH y.h) {x e : Int} (hx : isH x) (h1 : ¬ e < 1) :
    ∃ n0, n0 ≤ n + 1 ∧ Calls Try.prog 30 #[.pointer (some ⟨wb, 0, none⟩), .int .u64 x, .int .i64 e] w fun y w' => y = .returned (.tuple #[]) ∧ Kp F w w' ∧
      ∃ F', (∀ k, F' k → F k ∨ w.heap.size ≤ k) ∧ Wh w' wb F' (fun y => (S y ∧ y.h ≠ x) ∨ y = ⟨x, e, (sets + 1 : Nat)⟩) (sets + 1) n0 := by
  obtain ⟨b0, n0, h2, h3, h4⟩ := rem_58 h (by omega) hH hx
  exact ⟨n0 + 1, by omega, set_high h1 (by omega) (by omega) hx (fun y hy => hH y hy.1) (fun y hy => hy.2) h4⟩
end

/-- A heap of its own, as Due holds one. -/
def Nh (w : World) (nb : Nat) (F : Nat → Prop) (N : En → Prop) (k : Nat) : Prop :=
  ∃ rv mb r m, IsHp w 109 nb [] F rv mb k r k m ∧ Full k r N m ∧ Hp k r

section
variable {w : World} {wb nb : Nat} {tl : List Value} {F FN : Nat → Prop} {N : En → Prop} {rv : Value} {mb n k : Nat} {r : Nat → En} {m : Int → Option Nat} {i : Nat} {now : Int}
theorem lend_far (h : IsHp w 112 wb tl F rv mb n r n m) (hn : n < 1000000) (hi : ¬ i < n) : Calls Try.prog 60 #[.pointer (some ⟨wb, 0, none⟩), .pointer (some ⟨nb, 0, none⟩), .int .i64 i, .int .i64 now] w fun y w' => y = .returned (.tuple #[]) ∧ w' = w := by
  obtain ⟨ao, cp, rfl, _⟩ := row_shape h.row
  have c0 := h.c0
  have hd1 : decide ((i : Int) < n) = false := by simp; omega
  have hd2 : decide (i < n) = false := by simp; omega
  go_enter Try.func60, Try.ntmps60
  go_wp2
  go_end0
  exact ⟨rfl, rfl⟩
theorem lend_late (h : IsHp w 112 wb tl F rv mb n r n m) (hn : n < 1000000) (hi : i < n) (hx : ¬ (r i).x ≤ now) : Calls Try.prog 60 #[.pointer (some ⟨wb, 0, none⟩), .pointer (some ⟨nb, 0, none⟩), .int .i64 i, .int .i64 now] w fun y w' => y = .returned (.tuple #[]) ∧ w' = w := by
  obtain ⟨gb, cap, hrv, hcap, hmax⟩ := h.shape (by omega)
  subst hrv
  have c0 := h.c0
  obtain ⟨d0, d1, d2⟩ := h.cells rfl hi
  have hd1 : decide ((i : Int) < n) = true := by simp; omega
  have hd2 : decide (i < n) = true := by simp; omega
  have hd3 : (i : Int) < n := by omega
  go_enter Try.func60, Try.ntmps60
  go_wp2
  go_end0
  exact ⟨rfl, rfl⟩
theorem lend_due (h : IsHp w 112 wb tl F rv mb n r n m) (hn : n < 1000000) (hi : i < n) (hx : (r i).x ≤ now) (hN : Nh w nb FN N k) (hk : k < 900000) (hH : ∀ y, N y → isH y.h) (hh : isH (r i).h) (hne : ∀ y, N y → y.h ≠ (r i).h) :
    Calls Try.prog 60 #[.pointer (some ⟨wb, 0, none⟩), .pointer (some ⟨nb, 0, none⟩), .int .i64 i, .int .i64 now] w fun y w' => y = .returned (.tuple #[]) ∧ Kp FN w w' ∧ ∃ F', (∀ k, F' k → FN k ∨ w.heap.size ≤ k) ∧ Nh w' nb F' (fun y => N y ∨ y = r i) (k + 1) := by
  obtain ⟨gb, cap, hrv, hcap, hmax⟩ := h.shape (by omega)
  subst hrv
  have c0 := h.c0
  obtain ⟨d0, d1, d2⟩ := h.cells rfl hi
  have hd1 : decide ((i : Int) < n) = true := by simp; omega
  have hd2 : decide (i < n) = true := by simp; omega
  have hd3 : (i : Int) < n := by omega
  obtain ⟨rv2, mb2, r2, m2, i1, i2, i3⟩ := hN
  have h59 := add_59 (e := r i) i1 i2 i3 hk hH hh hne
  unfold enV at h59
  go_enter Try.func60, Try.ntmps60
  go_wp2_with (first | (go_at_call 59; refine h59.mono ?_; rintro y w3 ⟨rfl, hk3, F3, rv3, r3, m3, hF3, hi3, hfu3, hhp3⟩) | fail)
  go_end0
  exact ⟨rfl, hk3, F3, hF3, rv3, mb2, r3, m3, hi3, hfu3, hhp3⟩
end

end Go.Proofs.Ytagcmfaljfaikaa
