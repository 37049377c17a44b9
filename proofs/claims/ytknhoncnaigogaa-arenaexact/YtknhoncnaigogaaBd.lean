/-
  markAt, Lend, Intact, Over.
-/
import Derived.Test.YtknhoncnaigogaaBc
namespace Go.Proofs.Ytknhoncnaigogaa
open Go.RowKit
set_option linter.unusedVariables false

theorem Own.shape {B : Nat} {w : World} {ao : Option Addr} {cap : Nat} {us : List Int} (h : Own B w ao cap us) (hn : 0 < us.length) : ∃ g, ao = some ⟨g, 0, none⟩ ∧ B ≤ g ∧ us.length ≤ cap ∧ cap ≤ maxLen := by
  rcases h.2 with ⟨h1, h2⟩ | ⟨g, c, cur, h1, h2, h3, h4, h5, h6⟩
  · omega
  · simp only [Value.slice.injEq] at h1
    obtain ⟨rfl, _, rfl⟩ := h1
    exact ⟨g, rfl, h2, h4, h5⟩
/-- A part of what a slice holds. -/
theorem Has.piece {w : World} {g n : Nat} {ys : List Int} (h : Has w (some ⟨g, 0, none⟩) n ys) (x k o : Nat) (hx : x + k ≤ n) (ho : 0 < k → o = x) : Has w (some ⟨g, o, none⟩) k (cut ys x k) := by
  refine ⟨length_cut (by rw [h.1]; exact hx), fun hk => ⟨g, o, rfl, fun i hi => ?_⟩⟩
  obtain ⟨b', o', e1, e2⟩ := h.2 (by omega)
  cases e1
  rw [getD_cut hi, ho hk]
  have := e2 (x + i) (by omega)
  rw [Nat.zero_add] at this
  exact this


def marksTo (k : Nat) : List Int := (List.range k).map fun (i : Nat) => 165 - (i : Int)
theorem marksTo_succ (k : Nat) : marksTo (k + 1) = marksTo k ++ [165 - (k : Int)] := by simp [marksTo, List.range_succ]
theorem length_marksTo (k : Nat) : (marksTo k).length = k := by simp [marksTo]
theorem getD_marksTo (k i : Nat) (h : i < k) : (marksTo k).getD i 0 = 165 - (i : Int) := by simp [marksTo, List.getD, h]

theorem markAt_any (i : Int) (h0 : 0 ≤ i) (h1 : i < 70) (w : World) : Calls Try.prog 72 #[.int .i64 i] w fun e w' => e = .returned (.int .u8 (165 - i)) ∧ w' = w := by
  go_enter Try.func72, Try.ntmps72
  go_wp2
  go_ret
  exact ⟨rfl, rfl⟩

set_option maxHeartbeats 1000000 in
theorem lend_any {w : World} {a : Option Addr} {n : Nat} {ys : List Int} (hy : Has w a n ys) (c : Nat) (hc : a = none → c = 0) (hn : n ≤ 140737488351232) :
    Calls Try.prog 38 #[.slice a n c] w fun e w' => ∃ ao cap, e = .returned (.slice ao n cap) ∧ Own w.heap.size w' ao cap (ys ++ marksTo 70) ∧ w.grownBy w' none := by
  have hl := hy.1
  have hmk := run_make_room (n + 70) (by omega)
  have hmi : ((n + 70 : Nat) : Int) = (n : Int) + 70 := by omega
  rw [hmi] at hmk
  go_enter Try.func38, Try.ntmps38
  go_wp2_with (at_builtin; go_must (refine wpList_more rfl _ _ rfl w.heap.size (some ⟨w.heap.size, 0, none⟩) (n + 70) [] (by rfl) (Own.made _ w (n + 70) (Nat.le_refl _) (by omega)) a n c ys (by rfl) (hy.alloc _) hc (by simp; omega) (by simp) ?_))
  intro ao cap w1 hown hgr
  have hF := gb_mine (World.grownBy_alloc w (.cells (vals (List.replicate (n + 70) 0)) 5) none) hgr (Nat.le_refl _)
  clear hgr hmk
  go_wp2
  go_loopw [3, 4] (fun v c wr => ∃ (ao : Option Addr) (cap : Nat) (k : Nat), k ≤ 70 ∧ c = .int .i64 k ∧ v = .slice ao (n + k) cap ∧ Own w.heap.size wr ao cap (ys ++ marksTo k) ∧ w.grownBy wr none) (fun _ c _ => 70 - (intOf c).toNat)
  case atStart => exact ⟨ao, cap, 0, by omega, rfl, rfl, by simpa [marksTo] using hown, hF⟩
  case round =>
    clear hown hF
    obtain ⟨ao, cap, k, hk, rfl, rfl, hown, hF⟩ := hrel
    have hll : (ys ++ marksTo k).length = n + k := by rw [List.length_append, hl, length_marksTo]
    by_cases hlt : k < 70
    · go_wp2_with (first | (go_at_call 72; refine (markAt_any _ (by omega) (by omega) _).mono ?_; rintro e w' ⟨rfl, hw⟩; subst hw) | (at_builtin; go_must (refine wpList_push rfl _ _ rfl w.heap.size ao cap (ys ++ marksTo k) (165 - (k : Int)) (by rw [hll]; rfl) hown (by rfl) (by omega) hF.size ?_)))
      intro ao' cap' w' hown' hg'
      rw [← marksTo_succ] at hown'
      have hF' := gb_far hF hg' (fun k e => (hown.lt k e).1) (Nat.le_refl _)
      go_wp2
      go_roundw
      case rel => exact ⟨ao', cap', k + 1, by omega, by go_num, by simp [Nat.add_assoc], hown', hF'⟩
      case measure => simp [intOf]; omega
    · obtain rfl : k = 70 := by omega
      obtain ⟨g, rfl, hgb, hcap, hmx⟩ := hown.shape (by omega)
      unfold maxLen at hmx
      rw [hll] at hcap
      go_wp2
      go_ret
      exact ⟨_, cap, rfl, hown, hF⟩

theorem gb_cellN {w w' : World} (hf : w.grownBy w' none) {x : Addr} {v : Value} (h : w.cell? x = some v) : w'.cell? x = some v := by
  rw [← h]
  exact World.cell?_of_block (w := w) (w' := w') (hf.block x.block (World.block_lt_of_cell? _ _ h) (by simp))
theorem getD_right {xs ys : List Int} {i : Nat} : (xs ++ ys).getD (xs.length + i) 0 = ys.getD i 0 := by
  simp [List.getD, List.getElem?_append_right]

set_option maxHeartbeats 1000000 in
theorem intact_any {w : World} {B : Nat} {ao a : Option Addr} {cap n c : Nat} {ys : List Int} (hown : Own B w ao cap (ys ++ marksTo 70)) (hy : Has w a n ys) (hb : isBytes ys) (hn : n ≤ 140737488351232) :
    Calls Try.prog 39 #[.slice ao n cap, .slice a n c] w fun e w' => e = .returned (.bool true) ∧ w.grownBy w' none := by
  have hl := hy.1
  have hll : (ys ++ marksTo 70).length = n + 70 := by rw [List.length_append, hl, length_marksTo]
  obtain ⟨g, rfl, hgb, hcap, hmx⟩ := hown.shape (by omega)
  unfold maxLen at hmx
  have hH := hown.has
  rw [hll] at hcap hH
  have hH1 : Has w (some ⟨g, 0, none⟩) n ys := by
    have := hH.piece 0 n 0 (by omega) (fun _ => rfl)
    have e : cut (ys ++ marksTo 70) 0 n = ys := by simp [cut, ← hl]
    rw [e] at this
    exact this
  obtain ⟨_, _, e1, hcs⟩ := hH.2 (by omega)
  cases e1
  go_enter Try.func39, Try.ntmps39
  go_wp2_with fail
  refine (equal_34 hH1 hy hb hb cap c).mono ?_
  rintro e w' ⟨rfl, rfl⟩
  rw [decide_eq_true rfl]
  clear hH1 hH hown
  go_wp2
  go_loopw [6] (fun c wr => ∃ (k : Nat), k ≤ 70 ∧ c = .int .i64 k ∧ w.grownBy wr none) (fun c _ => 70 - (intOf c).toNat)
  case atStart => exact ⟨0, by omega, rfl, gb_refl _ _⟩
  case round =>
    obtain ⟨k, hk, rfl, hF⟩ := hrel
    by_cases hlt : k < 70
    · have hc := hcs (n + k) (by omega)
      rw [← hl, getD_right, getD_marksTo 70 k hlt, Nat.zero_add, hl] at hc
      have hc2 := gb_cellN hF hc
      have hnk : (0 : Int) ≤ (n : Int) + k := by omega
      have hnk3 : (n : Int) + k < (n : Int) + 70 := by omega
      have hnk4 : ((n : Int) + k).toNat = n + k := by omega
      have hwr : IntKind.i64.wrap ((n : Int) + k) = (n : Int) + k := by rw [IntKind.wrap_i64]; omega
      have hd : decide ((k : Int) < 70) = true := by simp; omega
      clear hcs hc
      go_wp2
      go_quiet ((go_at_call 72; exact Calls.quiet_of_same (markAt_any _ (by omega) (by omega) _)))
      go_wp2
      go_roundw
      case rel => exact ⟨k + 1, by omega, by go_num, gb_drewN hF _⟩
      case measure => simp [intOf]; omega
    · go_wp2
      go_ret
      exact ⟨rfl, hF⟩

set_option maxHeartbeats 1000000 in
theorem over_any {w : World} {B : Nat} {ao : Option Addr} {cap n : Nat} {us : List Int} (hown : Own B w ao cap us) (hn : n ≤ us.length) (hm : us.length ≤ 140737488355328) :
    Calls Try.prog 40 #[.slice ao n cap] w fun e w' => e = .returned (.tuple #[]) ∧ w.grownBy w' (blk ao) := by
  go_enter Try.func40, Try.ntmps40
  go_wp2
  go_loopw [2] (fun c wr => ∃ (k : Nat) (vs : List Int), k ≤ n ∧ c = .int .i64 k ∧ vs.length = us.length ∧ Own B wr ao cap vs ∧ w.grownBy wr (blk ao)) (fun c _ => n - (intOf c).toNat)
  case atStart => exact ⟨0, us, by omega, rfl, rfl, hown, gb_refl _ _⟩
  case round =>
    clear hown
    obtain ⟨k, vs, hk, rfl, hvl, hown, hF⟩ := hrel
    by_cases hlt : k < n
    · obtain ⟨g, rfl, hgb, hcap, hmx⟩ := hown.shape (by omega)
      unfold maxLen at hmx
      have hcell := hown.cellAt k (by omega)
      rw [show (vs.map (Value.int .u8))[k]? = some (.int .u8 (vs.getD k 0)) by simp [List.getD, show k < vs.length by omega]] at hcell
      have hfz := World.ownsRow.frozenAt hown k
      have hst := World.ownsRow.stored hown k (.int .u8 238)
      have HO : Hid (Own B (wr.setCell ⟨g, k, none⟩ (.int .u8 238)) (some ⟨g, 0, none⟩) cap (vs.set k 238)) := by
        show World.ownsRow _ _ _ _ _ _ _
        rw [List.length_set, List.map_set]
        exact hst.1
      have HF : Hid (w.grownBy (wr.setCell ⟨g, k, none⟩ (.int .u8 238)) (blk (some ⟨g, 0, none⟩))) := gb_trans hF hst.2
      clear hst
      go_wp2
      go_roundw
      case rel => exact ⟨k + 1, vs.set k 238, by omega, by go_num, by simpa using hvl, HO, HF⟩
      case measure => simp [intOf]; omega
    · go_wp2
      go_end0
      exact ⟨rfl, hF⟩

end Go.Proofs.Ytknhoncnaigogaa
