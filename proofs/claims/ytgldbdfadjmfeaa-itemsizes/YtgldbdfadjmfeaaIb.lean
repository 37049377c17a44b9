/-
  Lend, Intact, Copy.
-/
import Derived.Test.YtgldbdfadjmfeaaIa
namespace Go.Proofs.Ytgldbdfadjmfeaa
open Go.RowKit
set_option linter.unusedVariables false

theorem run_make_room (N : Nat) (h : N ≤ 281474976710656) (w : World) : (Instr.makeSlice 42 (.int .i64 0) (.int .i64 N)).run Try.prog w = .ok (.slice (some ⟨w.heap.size, 0, none⟩) 0 N) (w.alloc (.cells (vals (List.replicate N 0)) 5)) := by
  obtain ⟨i0, hi, hz0, hz1, hz2⟩ := info_parts Try.info5
  have := run_make (P := Try.prog) w 42 5 i0 (.int .u8 0) Try.underlying42 hi hz0 .i64 .i64 0 N (by omega) (by omega) (by rw [hz2]; omega) (by omega)
  rw [this, hz1]
  simp [made_zeros]
theorem Own.made (B : Nat) (w : World) (N : Nat) (hB : B ≤ w.heap.size) (hN : N ≤ 281474976710656) : Own B (w.alloc (.cells (vals (List.replicate N 0)) 5)) (some ⟨w.heap.size, 0, none⟩) N [] :=
  World.ownsRow_made w _ N hB (by unfold maxLen; omega) (by simp [vals])
theorem copy_any {w : World} {a : Option Addr} {n : Nat} {ys : List Int} (hy : Has w a n ys) (c : Nat) (hc : a = none → c = 0) (hn : n ≤ 1000000000000) :
    Calls Try.prog 120 #[.slice a n c] w fun e w' => ∃ ao cap, e = .returned (.slice ao n cap) ∧ Own w.heap.size w' ao cap ys ∧ w.grownBy w' none := by
  have hmk := run_make_room n (by omega)
  have hl := hy.1
  go_enter Try.func120, Try.ntmps120
  go_wp2_with (at_builtin; go_must (refine wpList_more rfl _ _ rfl w.heap.size (some ⟨w.heap.size, 0, none⟩) n [] rfl (Own.made _ w n (Nat.le_refl _) (by omega)) a n c ys rfl (hy.alloc _) hc (by simp; omega) (by simp) ?_))
  intro ao' cap' w' hown' hgr
  go_wp2
  go_ret
  exact ⟨ao', cap', rfl, hown', gb_mine (World.grownBy_alloc w _ none) hgr (Nat.le_refl _)⟩

theorem Own.shape {B : Nat} {w : World} {ao : Option Addr} {cap : Nat} {us : List Int} (h : Own B w ao cap us) (hn : 0 < us.length) : ∃ g, ao = some ⟨g, 0, none⟩ ∧ B ≤ g ∧ us.length ≤ cap ∧ cap ≤ maxLen := by
  rcases h.2 with ⟨h1, h2⟩ | ⟨g, c, cur, h1, h2, h3, h4, h5, h6⟩
  · omega
  · simp only [Value.slice.injEq] at h1
    obtain ⟨rfl, _, rfl⟩ := h1
    exact ⟨g, rfl, h2, h4, h5⟩
/-- A part of what a slice holds. -/
theorem Has.piece {w : World} {g n : Nat} {ys : List Int} (h : Has w (some ⟨g, 0, none⟩) n ys) (x k o : Nat) (hx : x + k ≤ n) (ho : 0 < k → o = x) : Has w (some ⟨g, o, none⟩) k (cut ys x k) := by
  refine ⟨length_cut (by rw [h.1]; exact hx), fun hk => ⟨g, o, rfl, fun i hi => ?_⟩⟩
  obtain ⟨b', o', e1, e2⟩ := h.2 (by omega)
  cases e1
  rw [getD_cut hi, ho hk]
  have := e2 (x + i) (by omega)
  rw [Nat.zero_add] at this
  exact this


def marksTo (k : Nat) : List Int := (List.range k).map fun (i : Nat) => 165 - (i : Int)
theorem marksTo_succ (k : Nat) : marksTo (k + 1) = marksTo k ++ [165 - (k : Int)] := by simp [marksTo, List.range_succ]
theorem length_marksTo (k : Nat) : (marksTo k).length = k := by simp [marksTo]
theorem getD_marksTo (k i : Nat) (h : i < k) : (marksTo k).getD i 0 = 165 - (i : Int) := by simp [marksTo, List.getD, h]

theorem markAt_any (i : Int) (h0 : 0 ≤ i) (h1 : i < 70) (w : World) : Calls Try.prog 85 #[.int .i64 i] w fun e w' => e = .returned (.int .u8 (165 - i)) ∧ w' = w := by
  go_enter Try.func85, Try.ntmps85
  go_wp2
  go_ret
  exact ⟨rfl, rfl⟩

set_option maxHeartbeats 1000000 in
theorem lend_any {w : World} {a : Option Addr} {n : Nat} {ys : List Int} (hy : Has w a n ys) (c : Nat) (hc : a = none → c = 0) (hn : n ≤ 140737488351232) :
    Calls Try.prog 44 #[.slice a n c] w fun e w' => ∃ ao cap, e = .returned (.slice ao n cap) ∧ Own w.heap.size w' ao cap (ys ++ marksTo 70) ∧ w.grownBy w' none := by
  have hl := hy.1
  have hmk := run_make_room (n + 70) (by omega)
  have hmi : ((n + 70 : Nat) : Int) = (n : Int) + 70 := by omega
  rw [hmi] at hmk
  go_enter Try.func44, Try.ntmps44
  go_wp2_with (at_builtin; go_must (refine wpList_more rfl _ _ rfl w.heap.size (some ⟨w.heap.size, 0, none⟩) (n + 70) [] (by rfl) (Own.made _ w (n + 70) (Nat.le_refl _) (by omega)) a n c ys (by rfl) (hy.alloc _) hc (by simp; omega) (by simp) ?_))
  intro ao cap w1 hown hgr
  have hF := gb_mine (World.grownBy_alloc w (.cells (vals (List.replicate (n + 70) 0)) 5) none) hgr (Nat.le_refl _)
  clear hgr hmk
  go_wp2
  go_loopw [3, 4] (fun v c wr => ∃ (ao : Option Addr) (cap : Nat) (k : Nat), k ≤ 70 ∧ c = .int .i64 k ∧ v = .slice ao (n + k) cap ∧ Own w.heap.size wr ao cap (ys ++ marksTo k) ∧ w.grownBy wr none) (fun _ c _ => 70 - (intOf c).toNat)
  case atStart => exact ⟨ao, cap, 0, by omega, rfl, rfl, by simpa [marksTo] using hown, hF⟩
  case round =>
    clear hown hF
    obtain ⟨ao, cap, k, hk, rfl, rfl, hown, hF⟩ := hrel
    have hll : (ys ++ marksTo k).length = n + k := by rw [List.length_append, hl, length_marksTo]
    by_cases hlt : k < 70
    · go_wp2_with (first | (go_at_call 85; refine (markAt_any _ (by omega) (by omega) _).mono ?_; rintro e w' ⟨rfl, hw⟩; subst hw) | (at_builtin; go_must (refine wpList_push rfl _ _ rfl w.heap.size ao cap (ys ++ marksTo k) (165 - (k : Int)) (by rw [hll]; rfl) hown (by rfl) (by omega) hF.size ?_)))
      intro ao' cap' w' hown' hg'
      rw [← marksTo_succ] at hown'
      have hF' := gb_far hF hg' (fun k e => (hown.lt k e).1) (Nat.le_refl _)
      go_wp2
      go_roundw
      case rel => exact ⟨ao', cap', k + 1, by omega, by go_num, by simp [Nat.add_assoc], hown', hF'⟩
      case measure => simp [intOf]; omega
    · obtain rfl : k = 70 := by omega
      obtain ⟨g, rfl, hgb, hcap, hmx⟩ := hown.shape (by omega)
      unfold maxLen at hmx
      rw [hll] at hcap
      go_wp2
      go_ret
      exact ⟨_, cap, rfl, hown, hF⟩

theorem getD_right {xs ys : List Int} {i : Nat} : (xs ++ ys).getD (xs.length + i) 0 = ys.getD i 0 := by
  simp [List.getD, List.getElem?_append_right]

set_option maxHeartbeats 1000000 in
theorem intact_any {w : World} {B : Nat} {ao a : Option Addr} {cap n c : Nat} {ys : List Int} (hown : Own B w ao cap (ys ++ marksTo 70)) (hy : Has w a n ys) (hb : isBytes ys) (hn : n ≤ 140737488351232) :
    Calls Try.prog 48 #[.slice ao n cap, .slice a n c] w fun e w' => e = .returned (.bool true) ∧ w.grownBy w' none := by
  have hl := hy.1
  have hll : (ys ++ marksTo 70).length = n + 70 := by rw [List.length_append, hl, length_marksTo]
  obtain ⟨g, rfl, hgb, hcap, hmx⟩ := hown.shape (by omega)
  unfold maxLen at hmx
  have hH := hown.has
  rw [hll] at hcap hH
  have hH1 : Has w (some ⟨g, 0, none⟩) n ys := by
    have := hH.piece 0 n 0 (by omega) (fun _ => rfl)
    have e : cut (ys ++ marksTo 70) 0 n = ys := by simp [cut, ← hl]
    rw [e] at this
    exact this
  obtain ⟨_, _, e1, hcs⟩ := hH.2 (by omega)
  cases e1
  go_enter Try.func48, Try.ntmps48
  go_wp2_with fail
  refine (equal_67 hH1 hy hb hb cap c).mono ?_
  rintro e w' ⟨rfl, rfl⟩
  rw [decide_eq_true rfl]
  clear hH1 hH hown
  go_wp2
  go_loopw [6] (fun c wr => ∃ (k : Nat), k ≤ 70 ∧ c = .int .i64 k ∧ w.grownBy wr none) (fun c _ => 70 - (intOf c).toNat)
  case atStart => exact ⟨0, by omega, rfl, gb_refl _ _⟩
  case round =>
    obtain ⟨k, hk, rfl, hF⟩ := hrel
    by_cases hlt : k < 70
    · have hc := hcs (n + k) (by omega)
      rw [← hl, getD_right, getD_marksTo 70 k hlt, Nat.zero_add, hl] at hc
      have hc2 := gb_cellN hF hc
      have hnk : (0 : Int) ≤ (n : Int) + k := by omega
      have hnk3 : (n : Int) + k < (n : Int) + 70 := by omega
      have hnk4 : ((n : Int) + k).toNat = n + k := by omega
      have hwr : IntKind.i64.wrap ((n : Int) + k) = (n : Int) + k := by rw [IntKind.wrap_i64]; omega
      have hd : decide ((k : Int) < 70) = true := by simp; omega
      clear hcs hc
      go_wp2
      go_quiet ((go_at_call 85; exact Calls.quiet_of_same (markAt_any _ (by omega) (by omega) _)))
      go_wp2
      go_roundw
      case rel => exact ⟨k + 1, by omega, by go_num, gb_drewN hF _⟩
      case measure => simp [intOf]; omega
    · go_wp2
      go_ret
      exact ⟨rfl, hF⟩


end Go.Proofs.Ytgldbdfadjmfeaa
