/-
  For; good.
-/
import Derived.Test.YtoaaaeefcipdcaaSj
import Derived.Shelf.Abstract
namespace Go.Proofs.Ytoaaaeefcipdcaa
open Go.RowKit
set_option linter.unusedVariables false

set_option maxRecDepth 100000 in
set_option maxHeartbeats 2000000 in
/-- sort.Search: the place from which on a test holds. -/
theorem search_any (g k n : Nat) (cb : Array Value) (p : Nat → Bool) (w : World) (eg : ∀ args w, (callFunc g args).run Try.prog w = .ok (.enter g args) w) (hn : n ≤ 62) (hk : k ≤ n) (h1 : ∀ i, i < k → p i = false) (h2 : ∀ i, k ≤ i → i < n → p i = true)
    (hf : ∀ w1, w.grownBy w1 none → ∀ i : Nat, i < n → Calls Try.prog g (#[.int .i64 i] ++ cb) w1 fun e w' => e = .returned (.bool (p i)) ∧ w1.grownBy w' none) :
    Calls Try.prog 55 #[.int .i64 n, .func (.func g) #[] cb] w fun e w' => e = .returned (.int .i64 k) ∧ w.grownBy w' none := by
  go_enter Try.func55, Try.ntmps55
  go_wp2
  go_loopw [5, 6] (fun a b wr => ∃ (lo hi : Nat), a = .int .i64 lo ∧ b = .int .i64 hi ∧ lo ≤ k ∧ k ≤ hi ∧ hi ≤ n ∧ w.grownBy wr none) (fun a b _ => (intOf b).toNat - (intOf a).toNat)
  case atStart => exact ⟨0, n, rfl, rfl, by omega, hk, Nat.le_refl _, gb_refl _ _⟩
  case round =>
    obtain ⟨lo, hi, rfl, rfl, hlo, hhi, hin, hg⟩ := hrel
    by_cases hlt : lo < hi
    · have hc := hf wr hg ((lo + hi) / 2) (by omega)
      rw [show (((lo + hi) / 2 : Nat) : Int) = ((lo : Int) + (hi : Int)) / 2 by omega] at hc
      have hd : decide ((lo : Int) < hi) = true := by simpa using hlt
      by_cases hm : (lo + hi) / 2 < k
      · rw [h1 _ hm] at hc
        clear hf h1 h2
        go_wp2_with (go_at_fn g; refine hc.mono ?_; rintro e w' ⟨rfl, hg2⟩)
        go_roundw
        case rel => exact ⟨(lo + hi) / 2 + 1, hi, by congr 1, rfl, by omega, hhi, hin, gb_trans hg hg2⟩
        case measure => simp [intOf]; omega
      · rw [h2 _ (by omega) (by omega)] at hc
        clear hf h1 h2
        go_wp2_with (go_at_fn g; refine hc.mono ?_; rintro e w' ⟨rfl, hg2⟩)
        go_roundw
        case rel => exact ⟨lo, (lo + hi) / 2, rfl, by congr 1, hlo, by omega, by omega, gb_trans hg hg2⟩
        case measure => simp [intOf]; omega
    · obtain rfl : lo = k := by omega
      obtain rfl : hi = lo := by omega
      go_wp2
      go_ret
      exact ⟨rfl, hg⟩

set_option maxHeartbeats 2000000 in
theorem clos_49 (ba bx sb kb nk kc : Nat) (x : Int) (i s : Nat) (W : World) (hi : i < nk) (hn : nk ≤ 62)
    (ha : W.cell? ⟨ba, 0, none⟩ = some (.pointer (some ⟨sb, 0, none⟩))) (hx : W.cell? ⟨bx, 0, none⟩ = some (.int .i64 x)) (h8 : W.cell? ⟨sb, 8, none⟩ = some (.slice (some ⟨kb, 0, none⟩) nk kc)) (hc : W.cell? ⟨kb, i * 4, none⟩ = some (.int .i64 s)) :
    Calls Try.prog 56 (#[.int .i64 i] ++ #[.pointer (some ⟨ba, 0, none⟩), .pointer (some ⟨bx, 0, none⟩)]) W fun e w' => e = .returned (.bool (decide (x ≤ s))) ∧ ∃ q, w' = W.drewN q := by
  have hiz : (i : Int) < (nk : Int) := by omega
  go_enter Try.func56, Try.ntmps56
  go_wp2
  go_quiet (fail)
  go_wp2
  go_ret
  exact ⟨by first | rfl | simp, _, rfl⟩

section
variable {w : World} {sb : Nat} {F : Nat → Prop} {B : Bl} {b c d e f g : Int} {A : Ab} {zs : List Int}

theorem for_arg (x : Int) (hx : x < 1) : Calls Try.prog 20 #[.pointer (some ⟨sb, 0, none⟩), .int .i64 x] w fun y w' => y = .returned (.tuple #[.int .i64 0, .int .i64 1]) ∧ w.grownBy w' none := by
  go_enter Try.func20, Try.ntmps20
  go_wp2
  go_ret2
  exact ⟨rfl, gb_alloc (gb_alloc (gb_refl _ _) _) _⟩


set_option maxHeartbeats 2000000 in
theorem for_26 (h : IsS w sb F B b c d e f g A zs) (hA : Szs A) (x : Int) (hx : 1 ≤ x) (k : Nat) (hk : k ≤ A.n) (h1 : ∀ i, i < k → (A.sz i : Int) < x) (h2 : k < A.n → x ≤ A.sz k) :
    Calls Try.prog 20 #[.pointer (some ⟨sb, 0, none⟩), .int .i64 x] w fun y w' => y = .returned (.tuple #[.int .i64 (if k = A.n then 0 else (k : Int)), .int .i64 (if k = A.n then 6 else 0)]) ∧ w.grownBy w' none := by
  have hn2 := hA.n2
  obtain ⟨W0, hW0⟩ : ∃ W0, W0 = (w.alloc (.cells #[.pointer (some ⟨sb, 0, none⟩)] 33)).alloc (.cells #[.int .i64 x] 3) := ⟨_, rfl⟩
  have hFW : w.grownBy W0 none := by rw [hW0]; exact gb_alloc (gb_alloc (gb_refl _ _) _) _
  have hS0 := h.kept0 hFW
  have ca : W0.cell? ⟨w.heap.size, 0, none⟩ = some (.pointer (some ⟨sb, 0, none⟩)) := by rw [hW0]; exact gb_cellN (World.grownBy_alloc _ _ _) ((Box.new w 33 #[.pointer (some ⟨sb, 0, none⟩)]).cell 0)
  have cx : W0.cell? ⟨w.heap.size + 1, 0, none⟩ = some (.int .i64 x) := by rw [hW0]; have := (Box.new (w.alloc (.cells #[.pointer (some ⟨sb, 0, none⟩)] 33)) 3 #[.int .i64 x]).cell 0; rwa [World.size_alloc] at this
  have eg : ∀ args w, (callFunc 56 args).run Try.prog w = .ok (.enter 56 args) w := enters_of Try.func56 (by kernel_rfl) rfl
  have hup : ∀ i j, i ≤ j → j < A.n → A.sz i ≤ A.sz j := fun i j hij hj => by
    rcases Nat.lt_or_ge i j with hl | hl
    · have := hA.up i j hl hj; omega
    · have : i = j := by omega
      subst this; exact Nat.le_refl _
  have hS := search_any 56 k A.n #[.pointer (some ⟨w.heap.size, 0, none⟩), .pointer (some ⟨w.heap.size + 1, 0, none⟩)] (fun i => decide (x ≤ A.sz i)) W0 eg (by omega) hk
    (fun i hi => by have := h1 i hi; simp; omega) (fun i hki hi => by have := hup k i hki hi; have := h2 (by omega); simp; omega)
    (fun w1 hg i hi => by
      have hSg := hS0.kept0 hg
      have c8 := hSg.sc 8
      simp [setC] at c8
      have e0 := hSg.kcell hi (j := 0) (by omega)
      simp only [kindC, List.getElem?_cons_zero, Nat.add_zero] at e0
      exact (clos_49 w.heap.size (w.heap.size + 1) sb B.kb A.n B.kc x i (A.sz i) _ hi hn2 (gb_cellN hg ca) (gb_cellN hg cx) c8 e0).mono fun _ _ ⟨he, q, hq⟩ => ⟨he, by rw [hq]; exact gb_drewN (gb_refl _ _) _⟩)
  have c8 := hS0.sc 8
  simp [setC] at c8
  have hd8 : ∀ W5, W0.grownBy W5 none → W5.cell? ⟨sb, 8, none⟩ = some (.slice (some ⟨B.kb, 0, none⟩) A.n B.kc) := fun W5 hg => gb_cellN hg c8
  have hda : ∀ W5, W0.grownBy W5 none → W5.cell? ⟨w.heap.size, 0, none⟩ = some (.pointer (some ⟨sb, 0, none⟩)) := fun W5 hg => gb_cellN hg ca
  have w8 := h.sc 8
  simp [setC] at w8
  have a8 : ∀ o1 o2, ((w.alloc o1).alloc o2).cell? ⟨sb, 8, none⟩ = some (.slice (some ⟨B.kb, 0, none⟩) A.n B.kc) := fun o1 o2 => gb_cellN (gb_alloc (gb_alloc (gb_refl _ none) _) _) w8
  have hdx : decide (x < 1) = false := by simp; omega
  have HW : Hid (W0 = (w.alloc (.cells #[.pointer (some ⟨sb, 0, none⟩)] 33)).alloc (.cells #[.int .i64 x] 3)) := hW0
  clear h hS0 hup h1 h2 hW0 ca cx c8
  generalize A.n = n at *
  by_cases hkn : k = n
  · subst hkn
    have e1 : (if k = k then (0 : Int) else (k : Int)) = 0 := by simp
    have e2 : (if k = k then (6 : Int) else 0) = 6 := by simp
    rw [e1, e2]
    go_enter Try.func20, Try.ntmps20
    go_wp2_with (go_at_call 55; rw [← HW.out]; refine hS.mono ?_; rintro e W5 ⟨rfl, hg5⟩; (have d8 := hd8 W5 hg5); (have da := hda W5 hg5); (have hgw := gb_trans hFW hg5))
    go_ret2
    exact ⟨rfl, hgw⟩
  · have e1 : (if k = n then (0 : Int) else (k : Int)) = k := by simp [hkn]
    have e2 : (if k = n then (6 : Int) else 0) = 0 := by simp [hkn]
    have hd1 : decide ((k : Int) = n) = false := by simp; omega
    have hd2 : decide (k = n) = false := by simpa using hkn
    have hd3 : ((k : Int) == n) = false := by simp; omega
    rw [e1, e2]
    go_enter Try.func20, Try.ntmps20
    go_wp2_with (go_at_call 55; rw [← HW.out]; refine hS.mono ?_; rintro e W5 ⟨rfl, hg5⟩; (have d8 := hd8 W5 hg5); (have da := hda W5 hg5); (have hgw := gb_trans hFW hg5))
    go_ret2
    exact ⟨rfl, hgw⟩
end

end Go.Proofs.Ytoaaaeefcipdcaa
